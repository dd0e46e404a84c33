/- Stage 9: the code's Of (written by wip/gen9of.py). -/
import Derived.Test.YtbgdmmemahfpbaaTai
namespace Go.Proofs.Ytbgdmmemahfpbaa
open Go.RowKit Go.Lib
set_option maxRecDepth 100000

@[go_sem] theorem buildL9n (n : Int) (w : World) : (Instr.build 41 #[(0, .int .u64 n)]).run Try.prog w = .ok (.agg #[.int .u64 n, .string ⟨#[]⟩]) w := run_build w 41 _ _ (by kernel_rfl)
theorem buildSlL9 (l : T9.Li) (w : World) : (Instr.buildSlice 22 1 #[(0, .agg #[.int .u64 (l.id : Int), .string (str l.name)])]).run Try.prog w = .ok (.slice (some ⟨w.heap.size, 0, none⟩) 1 1) (w.alloc (.cells #[.int .u64 (l.id : Int), .string (str l.name)] 41)) := by
  obtain ⟨i0, hi, hz0, hz1, hz2⟩ := info_parts Try.infoLi9
  exact run_buildSlice_one w 22 41 #[.int .u64 (l.id : Int), .string (str l.name)] i0 _ Try.underlying22 hi hz0 hz1 (by show 0 < 2; omega) (by show 2 ≤ _; omega)
theorem buildSlK9 (m : MTk) (w : World) : (Instr.buildSlice 23 1 #[(0, .agg (encK m).toArray)]).run Try.prog w = .ok (.slice (some ⟨w.heap.size, 0, none⟩) 1 1) (w.alloc (.cells (encK m).toArray 37)) := by
  obtain ⟨i0, hi, hz0, hz1, hz2⟩ := info_parts Try.infoTk9
  exact run_buildSlice_one w 23 37 (encK m).toArray i0 _ Try.underlying23 hi hz0 hz1 (by show 0 < 7; omega) (by show 7 ≤ _; omega)
theorem shr_li (s : Option (List UInt8)) : St.Shr s (T9.rdLi s).2 := (shr_full s).trans (St.shr_B 60 _)
theorem shr_lis : ∀ (n : Nat) (s : Option (List UInt8)), St.Shr s (T9.many T9.rdLi n s).2
  | 0, _ => fun t ht => ⟨t, ht, Nat.le_refl _⟩
  | n + 1, s => (shr_li s).trans (shr_lis n _)
theorem shr_tk (s : Option (List UInt8)) : St.Shr s (T9.rdTk s).2 := ((((((shr_full s).trans (shr_full _)).trans (St.shr_B 60 _)).trans (St.shr_G _)).trans (shr_F9 _)).trans (shr_F9 _)).trans ((St.shr_N 60 _).trans (shr_many9 _ _))
theorem shr_tks : ∀ (n : Nat) (s : Option (List UInt8)), St.Shr s (T9.many T9.rdTk n s).2
  | 0, _ => fun t ht => ⟨t, ht, Nat.le_refl _⟩
  | n + 1, s => (shr_tk s).trans (shr_tks n _)
theorem rdB_le (m : Nat) (s : Option (List UInt8)) : (Cd.rdB m s).1.length ≤ m := by
  unfold Cd.rdB
  cases (Cd.rdN m s).2 with
  | none => exact Nat.zero_le _
  | some t =>
    dsimp only
    split
    · rw [List.length_take]
      have := (Cd.rdN_lt m s).2
      omega
    · exact Nat.zero_le _
theorem many_all {α : Type} {f : Option (List UInt8) → α × Option (List UInt8)} {P : α → Prop} (h : ∀ s, P (f s).1) : ∀ (n : Nat) (s : Option (List UInt8)), ∀ x ∈ (T9.many f n s).1, P x
  | 0, _, _, hx => by cases hx
  | n + 1, s, x, hx => by
    rcases List.mem_cons.1 hx with rfl | q
    · exact h s
    · exact many_all h n _ x q
theorem rd_short {n1 n2 : Nat} {s1 s2 : Option (List UInt8)} (h1 : n1 ≤ 60) (h2 : n2 ≤ 60) : (⟨(T9.many T9.rdLi n1 s1).1, (T9.many T9.rdTk n2 s2).1⟩ : T9.St).short := by
  have q1 : ∀ s, (T9.rdLi s).1.name.length ≤ 1000000 := fun s => by show (Cd.rdB 60 _).1.length ≤ 1000000; have := rdB_le 60 (Cd.rdN Cd.full s).2; omega
  have q2 : ∀ s, (T9.rdTk s).1.short := fun s => by
    refine ⟨by show (Cd.rdB 60 _).1.length ≤ 1000000; have := rdB_le 60 (T9.s2 s); omega, many_all (fun s => by have := rdB_le 60 s; omega) _ _, ?_⟩
    show (T9.many (Cd.rdB 60) (T9.tagsN s) (T9.s7 s)).1.length ≤ 1000000
    rw [T9.many_len]
    have := (Cd.rdN_lt 60 (T9.s6 s)).2
    unfold T9.tagsN
    omega
  refine ⟨many_all q1 _ _, many_all q2 _ _, ?_, ?_⟩
  · show (T9.many T9.rdLi n1 s1).1.length ≤ 1000000
    rw [T9.many_len]; omega
  · show (T9.many T9.rdTk n2 s2).1.length ≤ 1000000
    rw [T9.many_len]; omega

def OfOk9 (b : List UInt8) (w : World) (e : Ending) (w' : World) : Prop :=
  ∃ m : MSt, e = .returned (.tuple #[m.val, .int .i64 (T9.of b).2]) ∧ SM m w' ∧ m.st = (T9.of b).1 ∧ Below w.heap.size w w'
set_option linter.unusedSimpArgs false in
set_option maxHeartbeats 8000000 in
set_option maxRecDepth 100000 in
theorem of9_c {A : Option Addr} {n c : Nat} {b : List UInt8} {w : World} {D : Nat} {td : TypeId} (h : Lies w D td A (bcells b)) (hn : n = b.length) (hb : n ≤ 1000000000) (hD : D ≤ w.heap.size) :
    Calls Try.prog 24 #[.slice A n c] w (OfOk9 b w) := by
  obtain ⟨w0, hw0⟩ : ∃ u, w.alloc (.cells #[.slice none 0 0, .slice none 0 0] 25) = u := ⟨_, rfl⟩
  obtain ⟨rb0, b0, z0⟩ := new_two hw0
  have RB0 := Lib.hid rb0
  have B0 := Lib.hid b0
  have CR := Lib.hid (read_c (c := c) ((h.more hD).old (t' := 5) |>.below (Nat.le_refl _) b0) (by omega) hn (by omega))
  have HBL : Hid (b.length ≤ 1000000000) := Lib.hid (by omega)
  clear h rb0 b0 hn hb
  go_enter Try.func24, Try.ntmps24
  go_wp2_with fail
  refine CR.out.mono ?_
  rintro e w1 ⟨p, rfl, hr, hb1⟩
  have RB1 := Lib.hid (blk_keep RB0.out hb1)
  have B1 := Lib.hid (B0.out.trans (hb1.mono (by omega)))
  obtain ⟨B, hB⟩ : ∃ v, v = w0.heap.size := ⟨_, rfl⟩
  rw [← hB] at hr
  have BZ : Hid (w.heap.size + 1 = B ∧ B ≤ w1.heap.size) := Lib.hid ⟨by omega, by have := hb1.size; omega⟩
  have hl0 : Hid (∀ l, some b = some l → l.length ≤ 1099511627776) := Lib.hid (by intro l e; injection e with e; subst e; have := HBL.out; omega)
  obtain ⟨w2, hw2⟩ : ∃ u, w1.alloc (.cells #[.slice none 0 0, .slice none 0 0] 25) = u := ⟨_, rfl⟩
  obtain ⟨gb2, b2, z2⟩ := new_two hw2
  have R2 : Hid (RS 116 B 5 w2 p (some b)) := Lib.hid (by rw [← hw2]; exact hr.alloc _)
  have RB2 := Lib.hid (blk_keep RB1.out b2)
  have GB2 := Lib.hid gb2
  have B2 := Lib.hid (B1.out.trans (b2.mono B1.out.size))
  have Z2 := Lib.hid z2
  have C2 := Lib.hid (rN_rd (mz := 60) R2.out (by decide) hl0.out (by decide))
  clear hr hb1 hB gb2 b2 z2 hw0 z0
  go_wp2_with fail
  refine C2.out.mono ?_
  rintro e w3 ⟨rfl, hr, ht⟩
  have nl : (Cd.rdN (60 : Int).toNat (some b)).1 ≤ 60 := (Cd.rdN_lt 60 (some b)).2
  obtain ⟨n1, hn1⟩ : ∃ v, v = (Cd.rdN (60 : Int).toNat (some b)).1 := ⟨_, rfl⟩
  rw [← hn1] at nl ⊢
  have N1 := Lib.hid hn1
  obtain ⟨s1, hs1⟩ : ∃ v, v = (Cd.rdN (60 : Int).toNat (some b)).2 := ⟨_, rfl⟩
  rw [← hs1] at hr
  have S1 := Lib.hid hs1
  have L1 : Hid (∀ l, s1 = some l → l.length ≤ 1099511627776) := Lib.hid (by rw [hs1]; exact (St.shr_N 60 (some b)).bound hl0.out)
  have R3 := Lib.hid hr
  have RB3 := Lib.hid (ht.blk RB2.out (by decide))
  have GB3 := Lib.hid (ht.blk GB2.out (by decide))
  have B3 : Hid (Below w.heap.size w w3) := Lib.hid (B2.out.trans (ht.below.mono (by have := BZ.out; omega)))
  have zw3 : Hid (w1.heap.size + 1 ≤ w3.heap.size) := Lib.hid (by have := lt_of_block GB3.out; omega)
  obtain ⟨li0, lhi, lz0, lz1, lz2⟩ := info_parts Try.infoLi9
  clear hr ht hn1 hs1
  go_wp2_with fail
  go_loopw [11] (fun s11 wr => ∃ (j : Nat) (A : Option Addr) (c : Nat), s11 = .int .u64 j ∧ j ≤ n1 ∧ Aside (RS 116 B 5 wr p (T9.many T9.rdLi j s1).2 ∧ wr.ownsRow B 41 2 (.slice A j c) j (lcells (T9.many T9.rdLi j s1).1) ∧ wr.heap[w1.heap.size]? = some (.cells #[.slice A j c, .slice none 0 0] 25 (0, 0)) ∧ wr.heap[w.heap.size]? = some (.cells #[.slice none 0 0, .slice none 0 0] 25 (0, 0)) ∧ Below w.heap.size w wr)) (fun s11 _ => n1 - (intOf s11).toNat)
  case atStart => exact ⟨0, none, 0, rfl, Nat.zero_le _, R3.out, World.ownsRow_nil _ _ _ _, GB3.out, RB3.out, B3.out⟩
  case round =>
    obtain ⟨j, A1, c1, rfl, hj, hI⟩ := hrel
    have HI := Lib.hid hI.out
    clear hI
    by_cases hlt : j < n1
    · have hltz : (j : Int) < (n1 : Int) := by omega
      have LJ : Hid (∀ l, (T9.many T9.rdLi j s1).2 = some l → l.length ≤ 1099511627776) := Lib.hid ((shr_lis j s1).bound L1.out)
      have CN := Lib.hid (rN_rd (mz := 18446744073709551615) HI.out.1 (by decide) LJ.out (by decide))
      rw [full_nat9] at CN
      go_wp2_with fail
      refine CN.out.mono ?_
      rintro e wa ⟨rfl, hr, ht⟩
      obtain ⟨id, hid⟩ : ∃ v, v = (Cd.rdN Cd.full (T9.many T9.rdLi j s1).2).1 := ⟨_, rfl⟩
      rw [← hid]
      have ID := Lib.hid hid
      have LK : Hid (∀ l, (Cd.rdN Cd.full (T9.many T9.rdLi j s1).2).2 = some l → l.length ≤ 1099511627776) := Lib.hid ((shr_full _).bound LJ.out)
      have Ta := Lib.hid ht
      have Ra := Lib.hid hr
      clear hid hr ht
      go_wp2_with fail
      obtain ⟨wb, hwb⟩ : ∃ u, wa.alloc (.cells #[.int .u64 (id : Int), .string ⟨#[]⟩] 41) = u := ⟨_, rfl⟩
      rw [hwb]
      obtain ⟨lb, bb, zb⟩ := new_two hwb
      have Rb : Hid (RS 116 B 5 wb p (Cd.rdN Cd.full (T9.many T9.rdLi j s1).2).2) := Lib.hid (by rw [← hwb]; exact Ra.out.alloc _)
      have LB := Lib.hid lb
      have Bb := Lib.hid bb
      have CB := Lib.hid (rB_rd (mz := 60) Rb.out (by decide) LK.out (by decide) (by decide))
      clear lb bb zb
      refine CB.out.mono ?_
      rintro e wc ⟨Ab, nb, cb, rfl, hob, hr, ht⟩
      obtain ⟨hnb, _⟩ := own_room hob
      obtain ⟨x, hx⟩ : ∃ v, v = (Cd.rdB (60 : Int).toNat (Cd.rdN Cd.full (T9.many T9.rdLi j s1).2).2).1 := ⟨_, rfl⟩
      have cv := conv_at (c := cb) (lies_own (B := 0) (t := 5) hob) hnb
      rw [← hx] at cv
      have X := Lib.hid hx
      have Tc := Lib.hid ht
      have Rc := Lib.hid hr
      have lbc := ht.blk LB.out (by decide)
      obtain ⟨l0, l1⟩ := two_cells lbc
      have fl1 := blk_free lbc 1
      have LBC := Lib.hid lbc
      clear hob hnb hx hr ht lbc
      -- the State's block and the row at wc
      have gc := Tc.out.blk (blk_keep (Ta.out.blk HI.out.2.2.1 (by decide)) Bb.out) (by decide)
      have GC := Lib.hid gc
      have OWC := Lib.hid (own_tch (own_tch (own_tch HI.out.2.1 Ta.out (by decide)) (Tch.of_below (B := wa.heap.size) Bb.out (Nat.le_refl _) []) (by simp)) Tc.out (by decide))
      have rbc := Tc.out.blk (blk_keep (Ta.out.blk HI.out.2.2.2.1 (by decide)) Bb.out) (by decide)
      have sa : w1.heap.size + 1 ≤ wa.heap.size := by have := lt_of_block (Ta.out.blk HI.out.2.2.1 (by decide)); omega
      have sb := lt_of_block LBC.out
      obtain ⟨wd, hwd⟩ : ∃ u, wc.setCell ⟨wa.heap.size, 1, none⟩ (.string (str x)) = u := ⟨_, rfl⟩
      have ld : wd.heap[wa.heap.size]? = some (.cells #[.int .u64 (id : Int), .string (str x)] 41 (0, 0)) := by rw [← hwd]; exact (blk_set LBC.out 1 (.string (str x))).trans rfl
      have gd : wd.heap[w1.heap.size]? = some (.cells #[.slice A1 j c1, .slice none 0 0] 25 (0, 0)) := by rw [← hwd]; exact blk_far gc (p := ⟨wa.heap.size, 1, none⟩) (by show w1.heap.size ≠ wa.heap.size; omega) _
      have rd : wd.heap[w.heap.size]? = some (.cells #[.slice none 0 0, .slice none 0 0] 25 (0, 0)) := by rw [← hwd]; exact blk_far rbc (p := ⟨wa.heap.size, 1, none⟩) (by have := BZ.out; show w.heap.size ≠ wa.heap.size; omega) _
      have zd : wd.heap.size = wc.heap.size := by rw [← hwd, World.size_setCell]
      have ZD := Lib.hid zd
      have zB : B ≤ wd.heap.size := by have := BZ.out; omega
      clear zd
      have OWD : Hid (wd.ownsRow B 41 2 (.slice A1 j c1) j (lcells (T9.many T9.rdLi j s1).1)) := Lib.hid (by
        rw [← hwd]
        refine own_keep OWC.out fun k hk => Below.heap_setCell wc _ _ k ?_
        have := (HI.out.2.1.lt k hk).2
        have := Ta.out.below.size
        show k ≠ wa.heap.size
        omega)
      have BD : Hid (Below w.heap.size w wd) := Lib.hid (by
        rw [← hwd]
        have bz := BZ.out
        have s3 := zw3.out
        exact (((HI.out.2.2.2.2.trans (Ta.out.below.mono (by omega))).trans (Bb.out.mono (by omega))).trans (Tc.out.below.mono (by omega))).setCell (by show w.heap.size ≤ wa.heap.size; omega) _)
      have Rd : Hid (RS 116 B 5 wd p (T9.many T9.rdLi (j + 1) s1).2) := Lib.hid (by
        rw [T9.many_snoc, ← hwd]
        exact Rc.out.tch ((Tch.refl B [41] wc).setTy (p := ⟨wa.heap.size, 1, none⟩) ⟨_, _, LBC.out⟩ (by simp) (by have := BZ.out; show B ≤ wa.heap.size; omega) _) (by decide) (by decide))
      obtain ⟨d0, d1⟩ := two_cells ld
      have e0 := (two_cells gd).1
      have hbs := buildSlL9 ⟨id, x⟩ wd
      have GD := Lib.hid gd
      have RD := Lib.hid rd
      clear gc rbc ld gd rd
      have bz := BZ.out
      have OWE := Lib.hid (OWD.out.alloc (.cells #[.int .u64 (id : Int), .string (str x)] 41))
      have LE : Hid (Lies (wd.alloc (.cells #[.int .u64 (id : Int), .string (str x)] 41)) 0 41 (some ⟨wd.heap.size, 0, none⟩) (encL ⟨id, x⟩)) := Lib.hid (Lies.of_blk (heap_alloc_new wd _))
      go_wp2_with (at_builtin; refine wpList_app _ rfl _ _ 22 rfl B 41 li0 _ 2 24 Try.underlying22 lhi lz0 lz1 lz2 rfl (by decide) _ j (lcells (T9.many T9.rdLi j s1).1) rfl OWE.out 0 _ 1 1 (encL ⟨id, x⟩) 41 rfl rfl LE.out (encL_one _) (by unfold maxLen; omega) (by omega) (by simp; omega) ?_)
      intro v6 w6 hown6 hgrow6 hor6
      obtain ⟨A6, k6, rfl⟩ := own_slice hown6
      have g6 := grown_blk OWE.out hgrow6 (blk_alloc GD.out (.cells #[.int .u64 (id : Int), .string (str x)] 41)) (by decide)
      have r6 := grown_blk OWE.out hgrow6 (blk_alloc RD.out (.cells #[.int .u64 (id : Int), .string (str x)] 41)) (by decide)
      have T6 : Hid (Tch B [41] wd w6) := Lib.hid (((Tch.refl B [41] wd).alloc zB (.cells #[.int .u64 (id : Int), .string (str x)] 41)).trans (grown_tch (B := B) (ts := [41]) OWE.out hgrow6 (Nat.le_refl _) (by simp; omega) (by simp)))
      have G6 := Lib.hid g6
      have R6 := Lib.hid r6
      have HO6 := Lib.hid hown6
      have e60 := (two_cells g6).1
      have f60 := blk_free g6 0
      have Y6 : Hid (Ty w6 w1.heap.size 25) := Lib.hid ⟨_, _, g6⟩
      clear g6 r6 hown6 hgrow6 hor6 hbs d0 d1 e0
      have R7 : Hid (RS 116 B 5 (w6.setCell ⟨w1.heap.size, 0, none⟩ (.slice A6 (j + 1) k6)) p (T9.many T9.rdLi (j + 1) s1).2) := Lib.hid ((Rd.out.tch T6.out (by decide) (by decide)).tch ((Tch.refl B [25] w6).setTy (p := ⟨w1.heap.size, 0, none⟩) Y6.out (by simp) (by show B ≤ w1.heap.size; omega) _) (by decide) (by decide))
      have O7 : Hid ((w6.setCell ⟨w1.heap.size, 0, none⟩ (.slice A6 (j + 1) k6)).ownsRow B 41 2 (.slice A6 (j + 1) k6) (j + 1) (lcells (T9.many T9.rdLi (j + 1) s1).1)) := Lib.hid (by
        rw [T9.many_snoc, lcells_snoc]
        have e : (⟨id, x⟩ : T9.Li) = (T9.rdLi (T9.many T9.rdLi j s1).2).1 := by
          unfold T9.rdLi
          rw [ID.out, X.out]
          rfl
        rw [← e]
        exact own_far HO6.out G6.out (by decide) _)
      have LB7 : Hid ((w6.setCell ⟨w1.heap.size, 0, none⟩ (.slice A6 (j + 1) k6)).heap[w1.heap.size]? = some (.cells #[.slice A6 (j + 1) k6, .slice none 0 0] 25 (0, 0))) := Lib.hid ((blk_set G6.out 0 (.slice A6 (j + 1) k6)).trans rfl)
      have RB7 : Hid ((w6.setCell ⟨w1.heap.size, 0, none⟩ (.slice A6 (j + 1) k6)).heap[w.heap.size]? = some (.cells #[.slice none 0 0, .slice none 0 0] 25 (0, 0))) := Lib.hid (blk_far R6.out (p := ⟨w1.heap.size, 0, none⟩) (by show w.heap.size ≠ w1.heap.size; omega) _)
      have B7 : Hid (Below w.heap.size w (w6.setCell ⟨w1.heap.size, 0, none⟩ (.slice A6 (j + 1) k6))) := Lib.hid ((BD.out.trans (T6.out.below.mono (by omega))).setCell (by show w.heap.size ≤ w1.heap.size; omega) _)
      clear sa sb zB bz
      go_wp2
      go_roundw
      case rel => exact ⟨j + 1, A6, k6, by go_num, by omega, R7.out, O7.out, LB7.out, RB7.out, B7.out⟩
      case measure => simp [intOf]; omega
    · obtain rfl : j = n1 := by omega
      have hltz : ¬ ((j : Int) < (j : Int)) := by omega
      have C4 := Lib.hid (rN_rd (mz := 60) HI.out.1 (by decide) ((shr_lis j s1).bound L1.out) (by decide))
      go_wp2_with fail
      refine C4.out.mono ?_
      rintro e w4 ⟨rfl, hr, ht⟩
      have nl2 : (Cd.rdN (60 : Int).toNat (T9.many T9.rdLi j s1).2).1 ≤ 60 := (Cd.rdN_lt 60 _).2
      obtain ⟨n2, hn2⟩ : ∃ v, v = (Cd.rdN (60 : Int).toNat (T9.many T9.rdLi j s1).2).1 := ⟨_, rfl⟩
      rw [← hn2] at nl2 ⊢
      have N2 := Lib.hid hn2
      obtain ⟨s2, hs2⟩ : ∃ v, v = (Cd.rdN (60 : Int).toNat (T9.many T9.rdLi j s1).2).2 := ⟨_, rfl⟩
      rw [← hs2] at hr
      have S2 := Lib.hid hs2
      have L2 : Hid (∀ l, s2 = some l → l.length ≤ 1099511627776) := Lib.hid (by rw [hs2]; exact ((shr_lis j s1).trans (St.shr_N 60 _)).bound L1.out)
      have R4 := Lib.hid hr
      have RB4 := Lib.hid (ht.blk HI.out.2.2.2.1 (by decide))
      have GB4 := Lib.hid (ht.blk HI.out.2.2.1 (by decide))
      have OL4 := Lib.hid (own_tch HI.out.2.1 ht (by decide))
      have B4 : Hid (Below w.heap.size w w4) := Lib.hid (HI.out.2.2.2.2.trans (ht.below.mono (by have := BZ.out; omega)))
      obtain ⟨ki0, khi, kz0, kz1, kz2⟩ := info_parts Try.infoTk9
      clear hr ht hn2 hs2
      go_wp2_with fail
      go_loopw [29] (fun s29 wr => ∃ (k : Nat) (A2 : Option Addr) (c2 : Nat) (ms : List MTk), s29 = .int .u64 k ∧ k ≤ n2 ∧ ms.length = k ∧ Aside (RS 116 B 5 wr p (T9.many T9.rdTk k s2).2 ∧ tks ms = (T9.many T9.rdTk k s2).1 ∧ (∀ m ∈ ms, Lies wr 0 9 m.A (gcells m.t.tags) ∧ m.t.tags.length ≤ m.c) ∧ wr.ownsRow B 37 7 (.slice A2 k c2) k (kcells ms) ∧ wr.ownsRow B 41 2 (.slice A1 j c1) j (lcells (T9.many T9.rdLi j s1).1) ∧ wr.heap[w1.heap.size]? = some (.cells #[.slice A1 j c1, .slice A2 k c2] 25 (0, 0)) ∧ wr.heap[w.heap.size]? = some (.cells #[.slice none 0 0, .slice none 0 0] 25 (0, 0)) ∧ Below w.heap.size w wr)) (fun s29 _ => n2 - (intOf s29).toNat)
      case atStart => exact ⟨0, none, 0, [], rfl, Nat.zero_le _, rfl, R4.out, rfl, by simp, World.ownsRow_nil _ _ _ _, OL4.out, GB4.out, RB4.out, B4.out⟩
      case round =>
        obtain ⟨k, A2, c2, ms, rfl, hk, hml, hJ⟩ := hrel
        have HJ := Lib.hid hJ.out
        have HML := Lib.hid hml
        clear hJ hml
        by_cases hlt2 : k < n2
        · have hltz2 : (k : Int) < (n2 : Int) := by omega
          have LJ : Hid (∀ l, (T9.many T9.rdTk k s2).2 = some l → l.length ≤ 1099511627776) := Lib.hid ((shr_tks k s2).bound L2.out)
          have CT := Lib.hid (readTask_c (w := wr.drew) (HJ.out.1.tch (Tch.refl B [] wr).drew (by simp) (by simp)) LJ.out)
          have S0 : wr.drew.cell? ⟨w1.heap.size, 1, none⟩ = some (.slice A2 k c2) := (two_cells HJ.out.2.2.2.2.2.1).2
          have gz : w1.heap.size < wr.heap.size := lt_of_block HJ.out.2.2.2.2.2.1
          go_wp2_with fail
          refine Any.begin (S := fun u => u.cell? ⟨w1.heap.size, 1, none⟩ = some (.slice A2 k c2)) (st := 7) mixed9 ?_
          refine Any.take (st := 7) (i := 0) (v := ?_) rfl (by kernel_rfl) (by kernel_rfl) (by kernel_rfl) rfl (by kernel_rfl) (fun _ _ _ h => h) (Or.inl ⟨by rfl, ?_⟩) S0 ?_
          rotate_left
          · intro u hu
            have hu : u.cell? ⟨w1.heap.size, 1, none⟩ = some (.slice A2 k c2) := hu
            go_simp
            try rfl
          try simp only [Act.put, List.setIfInBounds_toArray, List.set_cons_zero, List.set_cons_succ, List.getElem_toArray, List.getElem_cons_zero]
          refine Any.take (st := 7) (i := 1) (v := ?_) rfl (by kernel_rfl) (by kernel_rfl) (by kernel_rfl) rfl (by kernel_rfl) (fun _ _ _ h => h) (Or.inl ⟨by rfl, ?_⟩) S0 ?_
          rotate_left
          · intro u hu
            have hu : u.cell? ⟨w1.heap.size, 1, none⟩ = some (.slice A2 k c2) := hu
            go_simp
            try rfl
          try simp only [Act.put, List.setIfInBounds_toArray, List.set_cons_zero, List.set_cons_succ, List.getElem_toArray, List.getElem_cons_zero, List.getElem_cons_succ]
          refine Any.take (st := 7) (i := 2) (v := ?_) rfl (by kernel_rfl) (by kernel_rfl) (by kernel_rfl) rfl (by kernel_rfl) (fun _ _ _ h => h) (Or.inl ⟨by rfl, ?_⟩) S0 ?_
          rotate_left
          · intro u hu
            have hu : u.cell? ⟨w1.heap.size, 1, none⟩ = some (.slice A2 k c2) := hu
            go_simp
            try rfl
          try simp only [Act.put, List.setIfInBounds_toArray, List.set_cons_zero, List.set_cons_succ, List.getElem_toArray, List.getElem_cons_zero, List.getElem_cons_succ]
          clear S0
          refine Any.one (i := 3) (by kernel_rfl) rfl (fun K hK => ?_)
          go_simp
          refine CT.out.mono ?_
          rintro e wa ⟨m, rfl, hmt, hmL, hmc, hr, ht⟩
          have TA := Lib.hid ((Tch.refl B [116] wr).drew.trans ht)
          have MT := Lib.hid (And.intro hmt (And.intro hmL (And.intro hmc hr)))
          have ga := TA.out.blk HJ.out.2.2.2.2.2.1 (by decide)
          have GA := Lib.hid ga
          have RA := Lib.hid (TA.out.blk HJ.out.2.2.2.2.2.2.1 (by decide))
          have xa := (two_cells ga).2
          have hbs := buildSlK9 m wa
          have zB := hr.size
          clear hmt hmL hmc hr ht ga
          refine hK _ _ (fun _ => xa) ?_
          clear hK K
          try simp only [Act.put, List.setIfInBounds_toArray, List.set_cons_zero, List.set_cons_succ, List.getElem_toArray, List.getElem_cons_zero, List.getElem_cons_succ]
          refine Any.one (i := 4) (by kernel_rfl) rfl (fun K hK => ?_)
          go_simp
          refine hK _ _ (fun _ => (two_cells (blk_alloc GA.out _)).2) ?_
          clear hK K hbs
          try simp only [Act.put, List.setIfInBounds_toArray, List.set_cons_zero, List.set_cons_succ, List.getElem_toArray, List.getElem_cons_zero, List.getElem_cons_succ]
          refine Any.one (i := 5) (by kernel_rfl) rfl (fun K hK => ?_)
          have OWa := Lib.hid ((own_tch HJ.out.2.2.2.1 TA.out (by decide)).alloc (.cells (encK m).toArray 37))
          refine step_own rfl _ _ 23 rfl B 37 ki0 _ 7 80 Try.underlying23 khi kz0 kz1 kz2 rfl (by decide) _ k _ rfl OWa.out 0 (some ⟨wa.heap.size, 0, none⟩) 1 1 (encK m) 37 rfl rfl (Lies.of_blk (heap_alloc_new wa _)) (encK_one m) (by unfold maxLen; omega) (by omega) (by simp; omega) ?_
          intro v6 w6 hown6 hgrow6 hor6
          obtain ⟨A6, k6, rfl⟩ := own_slice hown6
          have g6 := grown_blk OWa.out hgrow6 (blk_alloc GA.out (.cells (encK m).toArray 37)) (by decide)
          have r6 := grown_blk OWa.out hgrow6 (blk_alloc RA.out (.cells (encK m).toArray 37)) (by decide)
          have T6 : Hid (Tch B [37] wa w6) := Lib.hid (((Tch.refl B [37] wa).alloc zB (.cells (encK m).toArray 37)).trans (grown_tch (B := B) (ts := [37]) OWa.out hgrow6 (Nat.le_refl _) (by simp; omega) (by simp)))
          have G6 := Lib.hid g6
          have R6 := Lib.hid r6
          have HO6 := Lib.hid hown6
          have e61 := (two_cells g6).2
          have f61 := blk_free g6 1
          have Y6 : Hid (Ty w6 w1.heap.size 25) := Lib.hid ⟨_, _, g6⟩
          refine hK _ _ (fun _ => e61) ?_
          clear hK K g6 r6 hown6 hgrow6 hor6 xa
          try simp only [Act.put, List.setIfInBounds_toArray, List.set_cons_zero, List.set_cons_succ, List.getElem_toArray, List.getElem_cons_zero, List.getElem_cons_succ]
          refine Any.one (i := 6) (by kernel_rfl) rfl (fun K hK => ?_)
          go_simp
          refine hK _ _ (fun _ => e61) ?_
          clear hK K
          try simp only [Act.put, List.setIfInBounds_toArray, List.set_cons_zero, List.set_cons_succ, List.getElem_toArray, List.getElem_cons_zero, List.getElem_cons_succ]
          refine Any.one (i := 7) (by kernel_rfl) rfl (fun K hK => ?_)
          go_simp
          refine hK _ _ (fun e => absurd rfl e) ?_
          clear hK K
          try simp only [Act.put, List.setIfInBounds_toArray, List.set_cons_zero, List.set_cons_succ, List.getElem_toArray, List.getElem_cons_zero]
          refine Any.done (by kernel_rfl) ?_
          have bz := BZ.out
          obtain ⟨wf, hwf⟩ : ∃ u, w6.setCell ⟨w1.heap.size, 1, none⟩ (.slice A6 (k + 1) k6) = u := ⟨_, rfl⟩
          have TS : Hid (Tch B [25] w6 wf) := Lib.hid (by rw [← hwf]; exact (Tch.refl B [25] w6).setTy (p := ⟨w1.heap.size, 1, none⟩) Y6.out (by simp) (by show B ≤ w1.heap.size; omega) _)
          have G7 : Hid (wf.heap[w1.heap.size]? = some (.cells #[.slice A1 j c1, .slice A6 (k + 1) k6] 25 (0, 0))) := Lib.hid (by rw [← hwf]; exact (blk_set G6.out 1 (.slice A6 (k + 1) k6)).trans rfl)
          have RB7 : Hid (wf.heap[w.heap.size]? = some (.cells #[.slice none 0 0, .slice none 0 0] 25 (0, 0))) := Lib.hid (by rw [← hwf]; exact blk_far R6.out (p := ⟨w1.heap.size, 1, none⟩) (by show w.heap.size ≠ w1.heap.size; omega) _)
          have R7 : Hid (RS 116 B 5 wf p (T9.many T9.rdTk (k + 1) s2).2) := Lib.hid (by
            rw [T9.many_snoc]
            exact (MT.out.2.2.2.tch T6.out (by decide) (by decide)).tch TS.out (by decide) (by decide))
          have K7 : Hid (tks (ms ++ [m]) = (T9.many T9.rdTk (k + 1) s2).1) := Lib.hid (by rw [T9.many_snoc, tks_snoc, HJ.out.2.1, MT.out.1])
          have F7 : Hid (∀ q ∈ ms ++ [m], Lies wf 0 9 q.A (gcells q.t.tags) ∧ q.t.tags.length ≤ q.c) := Lib.hid fun q hq => by
            rcases List.mem_append.1 hq with h | h
            · obtain ⟨h1, h2⟩ := HJ.out.2.2.1 q h
              exact ⟨((h1.tch TA.out.zero (by decide)).tch T6.out.zero (by decide)).tch TS.out.zero (by decide), h2⟩
            · simp only [List.mem_cons, List.not_mem_nil, or_false] at h
              subst h
              exact ⟨(MT.out.2.1.tch T6.out.zero (by decide)).tch TS.out.zero (by decide), MT.out.2.2.1⟩
          have O7 : Hid (wf.ownsRow B 37 7 (.slice A6 (k + 1) k6) (k + 1) (kcells (ms ++ [m]))) := Lib.hid (by rw [kcells_snoc]; exact own_tch HO6.out TS.out (by decide))
          have P7 : Hid (wf.ownsRow B 41 2 (.slice A1 j c1) j (lcells (T9.many T9.rdLi j s1).1)) := Lib.hid (own_tch (own_tch (own_tch HJ.out.2.2.2.2.1 TA.out (by decide)) T6.out (by decide)) TS.out (by decide))
          have B7 : Hid (Below w.heap.size w wf) := Lib.hid (((HJ.out.2.2.2.2.2.2.2.trans (TA.out.below.mono (by omega))).trans (T6.out.below.mono (by omega))).trans (TS.out.below.mono (by omega)))
          have ML7 : Hid ((ms ++ [m]).length = k + 1) := Lib.hid (by rw [List.length_append, HML.out]; rfl)
          clear bz zB gz e61 f61
          rw [hwf]
          go_wp2
          go_roundw
          case rel => exact ⟨k + 1, A6, k6, ms ++ [m], by go_num, by omega, ML7.out, R7.out, K7.out, F7.out, O7.out, P7.out, G7.out, RB7.out, B7.out⟩
          case measure => simp [intOf]; omega
        · obtain rfl : k = n2 := by omega
          have hltz2 : ¬ ((k : Int) < (k : Int)) := by omega
          obtain ⟨s3, hs3⟩ : ∃ v, v = (T9.many T9.rdTk k s2).2 := ⟨_, rfl⟩
          have RDE : Hid (T9.rdSt (some b) = (⟨(T9.many T9.rdLi j s1).1, tks ms⟩, s3)) := Lib.hid (by
            have q1 : (Cd.rdN 60 (some b)).1 = j := N1.out.symm
            have q2 : (Cd.rdN 60 (some b)).2 = s1 := S1.out.symm
            have q3 : (Cd.rdN 60 (T9.many T9.rdLi j s1).2).1 = k := N2.out.symm
            have q4 : (Cd.rdN 60 (T9.many T9.rdLi j s1).2).2 = s2 := S2.out.symm
            unfold T9.rdSt
            dsimp only
            rw [q1, q2, q3, q4, ← HJ.out.2.1, hs3])
          have RS3 : RS 116 B 5 wr p s3 := by rw [hs3]; exact HJ.out.1
          have CE := Lib.hid (end_rd RS3)
          have rb := HJ.out.2.2.2.2.2.2.1
          have gb := HJ.out.2.2.2.2.2.1
          obtain ⟨p0, p1⟩ := two_cells gb
          have LLr : Hid (LL wr A1 (T9.many T9.rdLi j s1).1) := Lib.hid (lies_own (B := 0) (t := 41) HJ.out.2.2.2.2.1).old
          have KLr : Hid (KL wr A2 ms) := Lib.hid ⟨(lies_own (B := 0) (t := 37) HJ.out.2.2.2.1).old, fun m hm => ⟨(HJ.out.2.2.1 m hm).1.old, (HJ.out.2.2.1 m hm).2⟩⟩
          have ec := (own_room HJ.out.2.2.2.2.1).2
          have ek := (own_room HJ.out.2.2.2.1).2
          have SHT : Hid ((⟨(T9.many T9.rdLi j s1).1, tks ms⟩ : T9.St).short) := Lib.hid (by rw [HJ.out.2.1]; exact rd_short (by omega) (by omega))
          have RC := Lib.hid (right_c (c := c1) (c2 := c2) LLr.out KLr.out (T9.many_len _ _ _).symm HML.out.symm SHT.out ⟨ec, ek⟩)
          have EC := Lib.hid (And.intro ec ek)
          have BW := Lib.hid HJ.out.2.2.2.2.2.2.2
          have RBW := Lib.hid rb
          have GBW := Lib.hid gb
          clear hs3 RS3 rb gb ec ek
          by_cases he : s3 = some []
          · have ev : endOf s3 = 0 := by rw [he]; rfl
            have HE := Lib.hid he
            clear he
            by_cases hr0 : T9.rightE ⟨(T9.many T9.rdLi j s1).1, tks ms⟩ = 0
            · have HR0 := Lib.hid hr0
              rw [hr0] at RC
              have OFB : Hid (T9.of b = (⟨(T9.many T9.rdLi j s1).1, tks ms⟩, 0)) := Lib.hid (by unfold T9.of; rw [RDE.out, if_pos ⟨HE.out, HR0.out⟩])
              clear hr0
              go_wp2_with (go_at_call 57; refine CE.out.mono ?_; rintro e w' ⟨rfl, rfl⟩)
              refine RC.out.mono ?_
              rintro e w8 ⟨rfl, h8⟩
              have rb8 := blk_keep RBW.out h8
              have gb8 := blk_keep GBW.out h8
              obtain ⟨d0, d1⟩ := two_cells rb8
              obtain ⟨g0, g1⟩ := two_cells gb8
              have fr0 := blk_free rb8 0
              have fr1 := blk_free rb8 1
              have RBF : Hid (((w8.setCell ⟨w.heap.size, 0, none⟩ (.slice A1 j c1)).setCell ⟨w.heap.size, 1, none⟩ (.slice A2 k c2)).heap[w.heap.size]? = some (.cells #[.slice A1 j c1, .slice A2 k c2] 25 (0, 0))) := Lib.hid ((blk_set (blk_set rb8 0 (.slice A1 j c1)) 1 (.slice A2 k c2)).trans rfl)
              obtain ⟨k0, k1⟩ := two_cells RBF.out
              have H8 := Lib.hid h8
              have RB8 := Lib.hid rb8
              clear rb8 gb8 h8 p0 p1
              go_wp2
              refine bodyPost_ret (v := .tuple #[.agg #[.slice A1 j c1, .slice A2 k c2], .int .i64 0]) (by simp [results, Try.results24, go_sem, k0, k1]) rfl ?_
              have y8 : Ty w8 w.heap.size 25 := ⟨_, _, RB8.out⟩
              have TF := ((Tch.refl 0 [25] w8).setTy (p := ⟨w.heap.size, 0, none⟩) y8 (by simp) (Nat.zero_le _) (.slice A1 j c1)).setTy (p := ⟨w.heap.size, 1, none⟩) (y8.set _ _) (by simp) (Nat.zero_le _) (.slice A2 k c2)
              have T8 : Tch 0 [25] wr w8 := (Tch.of_below H8.out (Nat.le_refl _) _).zero
              have TG := T8.trans TF
              refine ⟨⟨(T9.many T9.rdLi j s1).1, A1, c1, ms, A2, c2⟩, ?_, ⟨?_, ⟨?_, ?_⟩, ?_, ?_⟩, ?_, ?_⟩
              · rw [OFB.out]
                show _ = Ending.returned (Value.tuple #[.agg #[.slice A1 (T9.many T9.rdLi j s1).1.length c1, .slice A2 ms.length c2], .int .i64 0])
                rw [T9.many_len, HML.out]
              · exact ((lies_own (B := 0) (t := 41) HJ.out.2.2.2.2.1).tch TG (by decide)).old
              · exact ((lies_own (B := 0) (t := 37) HJ.out.2.2.2.1).tch TG (by decide)).old
              · exact fun m hm => ⟨((HJ.out.2.2.1 m hm).1.tch TG (by decide)).old, (HJ.out.2.2.1 m hm).2⟩
              · show (T9.many T9.rdLi j s1).1.length ≤ c1
                rw [T9.many_len]; exact EC.out.1
              · show ms.length ≤ c2
                rw [HML.out]; exact EC.out.2
              · rw [OFB.out]; rfl
              · exact ((BW.out.trans (H8.out.mono BW.out.size)).setCell (Nat.le_refl _) _).setCell (Nat.le_refl _) _
            · have OFB : Hid (T9.of b = (⟨[], []⟩, 90)) := Lib.hid (by unfold T9.of; rw [RDE.out, if_neg (fun q => hr0 q.2)])
              have hz : (T9.rightE ⟨(T9.many T9.rdLi j s1).1, tks ms⟩ == 0) = false := by simp [hr0]
              have hz2 : (T9.rightE ⟨(T9.many T9.rdLi j s1).1, tks ms⟩ != 0) = true := by simp [hr0]
              go_wp2_with (go_at_call 57; refine CE.out.mono ?_; rintro e w' ⟨rfl, rfl⟩)
              refine RC.out.mono ?_
              rintro e w8 ⟨rfl, h8⟩
              have rb8 := blk_keep RBW.out h8
              obtain ⟨d0, d1⟩ := two_cells rb8
              have fr0 := blk_free rb8 0
              have fr1 := blk_free rb8 1
              have RBF : Hid (((w8.setCell ⟨w.heap.size, 0, none⟩ (.slice none 0 0)).setCell ⟨w.heap.size, 1, none⟩ (.slice none 0 0)).heap[w.heap.size]? = some (.cells #[.slice none 0 0, .slice none 0 0] 25 (0, 0))) := Lib.hid ((blk_set (blk_set rb8 0 (.slice none 0 0)) 1 (.slice none 0 0)).trans rfl)
              obtain ⟨k0, k1⟩ := two_cells RBF.out
              have H8 := Lib.hid h8
              clear rb8 h8 p0 p1
              go_wp2
              refine bodyPost_ret (v := .tuple #[.agg #[.slice none 0 0, .slice none 0 0], .int .i64 90]) (by simp [results, Try.results24, go_sem, k0, k1]) rfl ?_
              exact ⟨⟨[], none, 0, [], none, 0⟩, by rw [OFB.out]; rfl, ⟨LL.nil, KL.nil, Nat.le_refl _, Nat.le_refl _⟩, by rw [OFB.out]; rfl, ((BW.out.trans (H8.out.mono BW.out.size)).setCell (Nat.le_refl _) _).setCell (Nat.le_refl _) _⟩
          · have OFB : Hid (T9.of b = (⟨[], []⟩, 90)) := Lib.hid (by unfold T9.of; rw [RDE.out, if_neg (fun q => he q.1)])
            have ev : endOf s3 = 20 := by
              unfold endOf
              split
              · exact absurd rfl he
              · rfl
            have h8 : Below wr.heap.size wr wr := Below.refl _ _
            have rb8 := RBW.out
            clear he
            obtain ⟨d0, d1⟩ := two_cells rb8
            have fr0 := blk_free rb8 0
            have fr1 := blk_free rb8 1
            have RBF : Hid (((wr.setCell ⟨w.heap.size, 0, none⟩ (.slice none 0 0)).setCell ⟨w.heap.size, 1, none⟩ (.slice none 0 0)).heap[w.heap.size]? = some (.cells #[.slice none 0 0, .slice none 0 0] 25 (0, 0))) := Lib.hid ((blk_set (blk_set rb8 0 (.slice none 0 0)) 1 (.slice none 0 0)).trans rfl)
            obtain ⟨k0, k1⟩ := two_cells RBF.out
            have H8 := Lib.hid h8
            clear rb8 h8 p0 p1
            go_wp2_with (go_at_call 57; refine CE.out.mono ?_; rintro e w' ⟨rfl, rfl⟩)
            refine bodyPost_ret (v := .tuple #[.agg #[.slice none 0 0, .slice none 0 0], .int .i64 90]) (by simp [results, Try.results24, go_sem, k0, k1]) rfl ?_
            exact ⟨⟨[], none, 0, [], none, 0⟩, by rw [OFB.out]; rfl, ⟨LL.nil, KL.nil, Nat.le_refl _, Nat.le_refl _⟩, by rw [OFB.out]; rfl, ((BW.out.trans (H8.out.mono BW.out.size)).setCell (Nat.le_refl _) _).setCell (Nat.le_refl _) _⟩
end Go.Proofs.Ytbgdmmemahfpbaa
