/- The code's own Disk: Write, Flush, Crash, Wipe, Clone. -/
import Derived.Test.YtogobeinckgjmaaDpf
import Derived.Test.YtogobeinckgjmaaDpc
namespace Go.Proofs.Ytogobeinckgjmaa
open Go.RowKit

set_option maxHeartbeats 2000000 in
theorem cdWrite_c {w : World} {G : Nat → Prop} {q : Nat} {d : Dk.D} {A : Option Addr} {n c : Nat} {b : List UInt8} {B : Nat} {t : TypeId} (h : CD w G q d) (hd : d.ok) (hl : d.left ≤ 9223372036854775807) (hcl : d.cache.length ≤ 100000000)
    (hL : Lies w B t A (bcells b)) (hBG : bcells b ≠ [] → InF (fun k => ¬ G k ∧ k < w.heap.size) A) (hn : n = b.length) (hs : n ≤ 1000000000) (_hc : n ≤ c) (i : Int) :
    Calls Try.prog 11 #[.pointer (some ⟨q, 0, none⟩), .int .i64 i, .slice A n c] w (CdOk G q (Dk.write d i b).1 (Dk.write d i b).2 w) := by
  have H := Lib.hid h
  have same : ∀ er, CdOk G q er d w (.returned (.int .i64 er)) w := fun er => ⟨rfl, h.mono up_self, But.refl _ _ _⟩
  have SM := Lib.hid same
  clear same
  cases hdd : d.dead
  · have HDD := Lib.hid hdd
    cases hh : Dk.has d i
    · have he : Dk.write d i b = (1, d) := by unfold Dk.write; rw [if_neg (by rw [hdd]; simp), if_pos hh]
      rw [he]
      have HH := Lib.hid hh
      clear he hh hdd hcl hl hd hL hBG hn h hs
      go_enter Try.func11, Try.ntmps11
      go_wp2_with fail
      refine (cdDead_at H.out).mono ?_
      rw [HDD.out]
      rintro e w0 ⟨rfl, rfl⟩
      go_wp2_with fail
      refine (cdHas_c H.out i).mono ?_
      rw [HH.out]
      rintro e w1 ⟨rfl, rfl⟩
      go_wp2
      go_ret
      exact SM.out 1
    · by_cases hb : 64 < b.length
      · have he : Dk.write d i b = (2, d) := by unfold Dk.write; rw [if_neg (by rw [hdd]; simp), if_neg (by rw [hh]; simp), if_pos hb]
        rw [he]
        have HH := Lib.hid hh
        have hb2 : (64 : Int) < (n : Int) := by omega
        clear he hh hdd hcl hl hd hL hBG hn h hb hs
        go_enter Try.func11, Try.ntmps11
        go_wp2_with fail
        refine (cdDead_at H.out).mono ?_
        rw [HDD.out]
        rintro e w0 ⟨rfl, rfl⟩
        go_wp2_with fail
        refine (cdHas_c H.out i).mono ?_
        rw [HH.out]
        rintro e w1 ⟨rfl, rfl⟩
        go_wp2
        go_ret
        exact SM.out 2
      · obtain ⟨k, rfl⟩ := Int.eq_ofNat_of_zero_le (Dk.has_iff.1 hh).1
        by_cases ha : (Dk.act d).1 = 0
        · have he : Dk.write d (k : Int) b = (0, Dk.put (Dk.act d).2 (k : Int) b) := by unfold Dk.write; rw [if_neg (by rw [hdd]; simp), if_neg (by rw [hh]; simp), if_neg hb, if_pos ha]
          rw [he]
          exact cdWrite_ok h hl hcl hd.few hL hBG hn k hh hdd (by omega) ha
        · have he : Dk.write d (k : Int) b = (50, (Dk.act d).2) := by
            unfold Dk.write; rw [if_neg (by rw [hdd]; simp), if_neg (by rw [hh]; simp), if_neg hb, if_neg ha]
            exact Prod.ext (Dk.act_no ha).1 rfl
          rw [he]
          have HA := Lib.hid (Dk.act_no ha).1
          have HH := Lib.hid hh
          have HL := Lib.hid hl
          have hb2 : (n : Int) ≤ 64 := by omega
          clear he hh hdd hcl hl hd hL hBG hn h hb ha hs
          go_enter Try.func11, Try.ntmps11
          go_wp2_with fail
          refine (cdDead_at H.out).mono ?_
          rw [HDD.out]
          rintro e w0 ⟨rfl, rfl⟩
          go_wp2_with fail
          refine (cdHas_c H.out k).mono ?_
          rw [HH.out]
          rintro e w1 ⟨rfl, rfl⟩
          go_wp2_with fail
          refine (cdSpend_c H.out HDD.out HL.out).mono ?_
          rw [HA.out]
          rintro e w1 ⟨rfl, hr1, hb1⟩
          go_wp2
          go_ret
          exact ⟨rfl, hr1, hb1⟩
  · have he : Dk.write d i b = (50, d) := by unfold Dk.write; rw [if_pos hdd]
    rw [he]
    have HDD := Lib.hid hdd
    clear he hdd hcl hl hd hL hBG hn h hs
    go_enter Try.func11, Try.ntmps11
    go_wp2_with fail
    refine (cdDead_at H.out).mono ?_
    rw [HDD.out]
    rintro e w0 ⟨rfl, rfl⟩
    go_wp2
    go_ret
    exact SM.out 50

theorem up_up {G : Nat → Prop} {B B' : Nat} (h : B ≤ B') : ∀ k, Up (Up G B) B' k → Up G B k := fun _ q => q.elim id (fun r => Or.inr (by omega))

set_option maxHeartbeats 2000000 in
theorem cdFlush_c {w : World} {G : Nat → Prop} {q : Nat} {d : Dk.D} (h : CD w G q d) (hd : d.ok) (hl : d.left ≤ 9223372036854775807) (hcl : d.cache.length ≤ 100000000) :
    Calls Try.prog 15 #[.pointer (some ⟨q, 0, none⟩)] w (CdOk G q (Dk.flush d).1 (Dk.flush d).2 w) := by
  have H := Lib.hid h
  have c5 := (show w.cell? ⟨q, 5, none⟩ = some (.bool d.dead) by
    obtain ⟨AK, cK, m, AF, cF, lf, D, n, V, r, e⟩ := h
    exact r.fields.2.2.2.2.2.1)
  cases hdd : d.dead
  · rw [hdd] at c5
    have HDD := Lib.hid hdd
    have HL := Lib.hid hl
    by_cases ha : (Dk.act d).1 = 0
    · have he : Dk.flush d = (0, { (Dk.act d).2 with s := Dk.keepBy (fun _ => true) 0 (Dk.act d).2.s (Dk.act d).2.cache, cache := [] }) := by
        unfold Dk.flush; rw [if_pos ha, Dk.keepAll_by, Dk.act_s, Dk.act_cache]
      rw [he]
      have HA := Lib.hid ha
      have OK := Lib.hid (Dk.act_ok hd)
      have CL := Lib.hid (show (Dk.act d).2.cache.length ≤ 100000000 by rw [Dk.act_cache]; exact hcl)
      clear he ha hdd h hd hl hcl
      go_enter Try.func15, Try.ntmps15
      go_wp2_with fail
      refine (cdMade_c H.out).mono ?_
      rintro e w0 ⟨rfl, rfl⟩
      go_wp2_with fail
      refine (cdSpend_c H.out HDD.out HL.out).mono ?_
      rw [HA.out]
      rintro e w1 ⟨rfl, hr1, hb1⟩
      have HR1 := Lib.hid hr1
      have HB1 := Lib.hid hb1
      have z1 := hb1.size
      clear hr1 hb1 c5
      go_wp2_with fail
      refine (cdSettleF_c HR1.out OK.out CL.out).mono ?_
      rintro e w2 ⟨rfl, hr2, hb2⟩
      have HR2 := Lib.hid hr2
      have HB2 := Lib.hid hb2
      clear hr2 hb2
      go_wp2
      go_ret
      exact ⟨rfl, HR2.out.mono (up_up z1), HB1.out.trans ⟨HB2.out.os, HB2.out.tape, HB2.out.output, HB2.out.size, fun k hk hg => HB2.out.block k (by omega) (fun g => g.elim hg (fun r => by omega))⟩⟩
    · have he : Dk.flush d = (50, (Dk.act d).2) := by
        unfold Dk.flush; rw [if_neg ha]
        exact Prod.ext (Dk.act_no ha).1 rfl
      rw [he]
      have HA := Lib.hid (Dk.act_no ha).1
      clear he ha hdd h hd hl hcl
      go_enter Try.func15, Try.ntmps15
      go_wp2_with fail
      refine (cdMade_c H.out).mono ?_
      rintro e w0 ⟨rfl, rfl⟩
      go_wp2_with fail
      refine (cdSpend_c H.out HDD.out HL.out).mono ?_
      rw [HA.out]
      rintro e w1 ⟨rfl, hr1, hb1⟩
      go_wp2
      go_ret
      exact ⟨rfl, hr1, hb1⟩
  · have he : Dk.flush d = (50, d) := by
      have ea : Dk.act d = (50, d) := by
        unfold Dk.act
        rw [if_pos (Or.inl hdd)]
        obtain ⟨s, ca, bd, lf, dd⟩ := d
        have : dd = true := hdd
        subst this
        rfl
      unfold Dk.flush
      rw [ea, if_neg (show ¬ (50 : Int) = 0 by decide)]
    rw [he]
    rw [hdd] at c5
    clear he hdd hd hl hcl h
    go_enter Try.func15, Try.ntmps15
    go_wp2_with fail
    refine (cdMade_c H.out).mono ?_
    rintro e w0 ⟨rfl, rfl⟩
    go_wp2
    go_ret
    exact ⟨rfl, H.out.mono up_self, But.refl _ _ _⟩

set_option maxHeartbeats 2000000 in
theorem cdCrash_c {w : World} {G : Nat → Prop} {q : Nat} {d : Dk.D} {AK : Option Addr} {nK cK : Nat} {ks : List Bool} {BK : Nat} {tK : TypeId} (h : CD w G q d) (hd : d.ok) (hcl : d.cache.length ≤ 100000000) (hK : Lies w BK tK AK (ks.map Value.bool)) (hKG : ks.map Value.bool ≠ [] → InF (fun k => ¬ G k ∧ k < w.heap.size) AK) (hn : nK = ks.length) (hns : nK ≤ 1000000000) (_hc : nK ≤ cK) :
    Calls Try.prog 19 #[.pointer (some ⟨q, 0, none⟩), .slice AK nK cK] w (CdOk0 G q (Dk.crash d ks) w) := by
  have hmf : ∀ (fn : Fn) (first cap : Array Value) (w : World), (Instr.makeFunc fn first cap).run Try.prog w = .ok (.func fn first cap) w := fun _ _ _ _ => rfl
  have wa := (Below.refl w.heap.size w).alloc (Nat.le_refl _) (.cells #[.slice AK nK cK] 30)
  have H : Hid (CD (w.alloc (.cells #[.slice AK nK cK] 30)) (fun k => G k ∧ k < w.heap.size) q d) := Lib.hid (h.cap.keep fun k g _ => wa.block k g.2)
  have BX : Hid ((w.alloc (.cells #[.slice AK nK cK] 30)).cell? ⟨w.heap.size, 0, none⟩ = some (.slice AK nK cK)) := Lib.hid (by simp)
  have LK : Hid (Lies (w.alloc (.cells #[.slice AK nK cK] 30)) w.heap.size tK AK (ks.map Value.bool)) := Lib.hid (hK.old.alloc (Nat.le_refl _) _)
  have IK : Hid (ks.map Value.bool ≠ [] → InF (fun k => ¬ (G k ∧ k < w.heap.size) ∧ k < (w.alloc (.cells #[.slice AK nK cK] 30)).heap.size) AK) := Lib.hid fun h0 ad e => ⟨fun g => (hKG h0 ad e).1 g.1, Nat.lt_of_lt_of_le (hKG h0 ad e).2 wa.size⟩
  have HD := Lib.hid hd
  have HN := Lib.hid hn
  have WA := Lib.hid wa
  have CR : Hid (Dk.crash d ks = { d with s := Dk.keepBy (fun t => ks.getD t false) 0 d.s d.cache, cache := [], left := -1, dead := false }) := Lib.hid (by unfold Dk.crash; rw [Dk.keepSome_by])
  clear h hd hK hKG hn wa
  go_enter Try.func19, Try.ntmps19
  go_wp2_with fail
  refine (cdSettleC_c H.out HD.out hcl BX.out (fun g => Nat.lt_irrefl _ g.2) (by simp) LK.out IK.out HN.out hns).mono ?_
  rintro e w1 ⟨rfl, hr1, hb1⟩
  obtain ⟨AK1, cK1, m1, AF1, cF1, lf1, D1, n1, V1, r1, e1⟩ := hr1
  obtain ⟨_, _, _, _, d4, d5, fz⟩ := r1.fields
  have f4 := fz 4
  have f5 := fz 5
  have R1 := Lib.hid r1
  have HB1 := Lib.hid hb1
  have upG : ∀ k, Up (fun k => G k ∧ k < w.heap.size) (w.alloc (.cells #[.slice AK nK cK] 30)).heap.size k → Up G w.heap.size k := fun k g => g.elim (fun g => .inl g.1) (fun g => .inr (Nat.le_trans WA.out.size g))
  have UG := Lib.hid upG
  clear r1 hb1 e1 fz upG hcl hns
  go_wp2
  go_end0
  rw [CR.out]
  refine ⟨rfl, ⟨AK1, cK1, m1, AF1, cF1, -1, D1, n1, V1, (CD6.reset (lf' := -1) (dead' := false) R1.out ?_ ?_).mono UG.out, by rw [if_neg (by omega)]⟩, ?_⟩
  · rw [blk_set (blk_set R1.out.cell 4 _)]; rfl
  · exact fun k hk => (set_off k hk).trans (set_off k hk)
  · have b : But G w.heap.size w w1 := (But.of_below WA.out G).trans (But.mono HB1.out WA.out.size (fun k g => g.1))
    exact (b.setCell (UG.out _ R1.out.fp) _).setCell (UG.out _ R1.out.fp) _

/-- The disk of block q1, put into block q. -/
theorem CD6.moved {w w' : World} {F G : Nat → Prop} {q q1 : Nat} {AK : Option Addr} {cK m : Nat} {AF : Option Addr} {cF : Nat} {lf : Int} {s : List (List UInt8)} {c : List (Nat × List UInt8)} {bad : List Bool} {dead : Bool} {D : DataW Value} {n : Nat} {V : Nat → Option Addr × Nat}
    (h : CD6 w G q1 AK cK m AF cF lf s c bad dead D n V)
    (hq : w'.heap[q]? = some (.cells #[.slice AK s.length cK, .map (some m), .int .i64 (c.length : Int), .slice AF bad.length cF, .int .i64 lf, .bool dead] 59 (0, 0))) (hk : ∀ k, k ≠ q → w'.heap[k]? = w.heap[k]?) (hG : ¬ G q) (hF : F q) (hGF : ∀ k, G k → F k) : CD6 w' F q AK cK m AF cF lf s c bad dead D n V :=
  have hh : ∀ k, G k → w'.heap[k]? = w.heap[k]? := fun k g => hk k (fun e => hG (e ▸ g))
  ⟨hF, hq, own_keepG h.k h.kF (fun k g _ => hh k g), h.kF.mono hGF, hGF m h.mF, map_keep h.map (hh m h.mF), h.few, h.look, h.has, h.keys, fun i hi => own_keepG (h.row i hi) (h.rowF i hi) (fun k g _ => hh k g), fun i hi => (h.rowF i hi).mono hGF, h.apart, own_keepG h.f h.fF (fun k g _ => hh k g), h.fF.mono hGF⟩

theorem dk_new_len {n : Nat} (h : n ≤ 4096) : Dk.new (n : Int) = Dk.fresh n := by
  unfold Dk.new Dk.count
  rw [Int.toNat_natCast, Nat.min_eq_left h]

set_option maxHeartbeats 2000000 in
theorem cdWipe_c {w : World} {G : Nat → Prop} {q : Nat} {d : Dk.D} (h : CD w G q d) (hd : d.ok) :
    Calls Try.prog 23 #[.pointer (some ⟨q, 0, none⟩)] w (CdOk0 G q (Dk.wipe d) w) := by
  have H := Lib.hid h
  have NW := Lib.hid (show Dk.new (d.s.length : Int) = Dk.wipe d from dk_new_len hd.few)
  have hm : (d.s.length : Int) ≤ 9223372036854775807 := by have := hd.few; omega
  obtain ⟨AK, cK, m, AF, cF, lf, D, n, V, r, e⟩ := h
  have R := Lib.hid r
  have qlt := lt_of_block r.cell
  clear r e hd
  go_enter Try.func23, Try.ntmps23
  go_wp2_with fail
  refine (cdMade_c H.out).mono ?_
  rintro e w0 ⟨rfl, rfl⟩
  go_wp2_with fail
  refine (cdSizeAt_c H.out).mono ?_
  rintro e w0 ⟨rfl, rfl⟩
  go_wp2_with fail
  refine (cdNew_c _ _ hm).mono ?_
  rw [NW.out]
  rintro e w1 ⟨q1, rfl, hq, hb1⟩
  obtain ⟨AK1, cK1, m1, AF1, cF1, lf1, D1, n1, V1, r1, e1⟩ := hq
  obtain ⟨f0, f1, f2, f3, f4, f5, _⟩ := r1.fields
  have hp1 := (hb1.block q qlt).trans R.out.cell
  have fz := fun j => blk_free hp1 j
  have z0 := fz 0
  have z1 := fz 1
  have z2 := fz 2
  have z3 := fz 3
  have z4 := fz 4
  have z5 := fz 5
  have p0 : w1.cell? ⟨q, 0, none⟩ = some (.slice AK d.s.length cK) := by simp [World.cell?, hp1]
  have p1 : w1.cell? ⟨q, 1, none⟩ = some (.map (some m)) := by simp [World.cell?, hp1]
  have p2 : w1.cell? ⟨q, 2, none⟩ = some (.int .i64 (d.cache.length : Int)) := by simp [World.cell?, hp1]
  have p3 : w1.cell? ⟨q, 3, none⟩ = some (.slice AF d.bad.length cF) := by simp [World.cell?, hp1]
  have p4 : w1.cell? ⟨q, 4, none⟩ = some (.int .i64 lf) := by simp [World.cell?, hp1]
  have p5 : w1.cell? ⟨q, 5, none⟩ = some (.bool d.dead) := by simp [World.cell?, hp1]
  have R1 := Lib.hid r1
  have E1 := Lib.hid e1
  have HB1 := Lib.hid hb1
  have HP1 := Lib.hid hp1
  clear r1 e1 hb1 hp1 fz hm
  go_wp2
  go_end0
  refine ⟨rfl, ⟨AK1, cK1, m1, AF1, cF1, lf1, D1, n1, V1, R1.out.moved ?_ ?_ (by omega) (Or.inl R.out.fp) (fun k g => Or.inr g), E1.out⟩, ((((((But.of_below HB1.out G).setCell (Or.inl R.out.fp) _).setCell (Or.inl R.out.fp) _).setCell (Or.inl R.out.fp) _).setCell (Or.inl R.out.fp) _).setCell (Or.inl R.out.fp) _).setCell (Or.inl R.out.fp) _⟩
  · rw [blk_set (blk_set (blk_set (blk_set (blk_set (blk_set HP1.out 0 _) 1 _) 2 _) 3 _) 4 _) 5 _]; rfl
  · exact fun k hk => (set_off k hk).trans ((set_off k hk).trans ((set_off k hk).trans ((set_off k hk).trans ((set_off k hk).trans (set_off k hk)))))

/-- Only the kept sectors have turned. -/
theorem CD6.rekept {w w' : World} {G : Nat → Prop} {q : Nat} {AK : Option Addr} {cK m : Nat} {AF : Option Addr} {cF : Nat} {lf : Int} {s s' : List (List UInt8)} {bad : List Bool} {dead : Bool} {D : DataW Value} {n : Nat} {V : Nat → Option Addr × Nat}
    (h : CD6 w G q AK cK m AF cF lf s [] bad dead D n V) (hs : s'.length = s.length) (hk : w.grownBy w' (Value.slice AK s.length cK).ownBlock) (ho : w'.ownsRow 0 62 64 (.slice AK s.length cK) s.length (kcells s')) : CD6 w' G q AK cK m AF cF lf s' [] bad dead D n V := by
  have T := grown_tch (B := 0) (ts := [62]) h.k hk (Nat.le_refl _) (Nat.zero_le _) (by simp)
  refine ⟨h.fp, by rw [hs]; exact T.blk h.cell (by decide), by rw [hs]; exact ho, h.kF, h.mF, ?_, h.few, fun i hi => h.look i (hs ▸ hi), fun i hi => h.has i (hs ▸ hi), fun kl hkl => ?_, fun i hi => own_tch (h.row i (hs ▸ hi)) T (by decide), fun i hi => h.rowF i (hs ▸ hi), fun i j hi hj => h.apart i j (hs ▸ hi) (hs ▸ hj), own_tch h.f T (by decide), h.fF⟩
  · refine map_keep h.map (hk.block m h.map.lt (fun e => ?_))
    obtain ⟨_, cs, fr, hb⟩ := own_row h.k m e.symm
    exact map_ne h.map hb rfl
  · rw [hs]; exact h.keys kl hkl
theorem run_copy_own {P : Program} {w : World} {dT sT elem t : TypeId} {i : TypeInfo} {size n c c2 : Nat} {A A2 : Option Addr} {ys xs : List Value} {B : Nat} (ty : TypeId) (hu : P.underlying dT = some (.slice elem)) (hi : P.info? elem = some i) (hs : i.size = size)
    (ho : w.ownsRow 0 elem size (.slice A n c) n ys) (hL : Lies w B t A2 xs) (hx : xs.length = n * size) (h1 : ∀ u ∈ xs, u.oneCell' = true) :
    ∃ w', (Builtin.copy_ #[dT, sT] ty #[.slice A n c, .slice A2 n c2]).run P w = .ok (goInt n) w' ∧ w'.ownsRow 0 elem size (.slice A n c) n xs ∧ w.grownBy w' (Value.slice A n c).ownBlock := by
  have hl : ys.length = n * size := ho.1
  by_cases hz : xs = []
  · subst hz
    have hn0 : n * size = 0 := hx.symm
    have hy : ys = [] := List.eq_nil_of_length_eq_zero (by rw [hl, hn0])
    refine ⟨w, ?_, hy ▸ ho, World.grownBy.refl w _⟩
    cases A <;> cases A2 <;> simp [Builtin.copy_, run_underlying hu, Builtin.lenOf, Builtin.firstCells, sizeOf, typeInfo, hi, hs, hn0, storeCells, loadCells, loadCellsFrom]
  · obtain ⟨ad, rfl, _, hc⟩ := hL hz
    have hpos : 0 < n := by
      rcases Nat.eq_zero_or_pos n with q | q
      · rw [q, Nat.zero_mul] at hx; exact absurd (List.eq_nil_of_length_eq_zero hx) hz
      · exact q
    obtain ⟨g, cp, hA, _, _⟩ := ho.form hpos
    injection hA with hA _ _
    subst hA
    have th := own_there ho (o := 0) (m := xs.length) (by rw [hl, hx, Nat.zero_add]; exact Nat.le_refl _)
    have ld := run_loadCells_list (P := P) w ad xs hc
    rw [hx] at ld
    have st := run_storeCells_cells (P := P) g 0 xs 0 w (fun j hj => by simpa using (th j hj).1) (fun j hj => by simpa using (th j hj).2) h1
    refine ⟨w.setCells g 0 xs, ?_, ?_, grown_setCells g xs 0 w⟩
    · simp [Builtin.copy_, run_underlying hu, Builtin.lenOf, Builtin.firstCells, sizeOf, typeInfo, hi, hs, ld, st]
    · have q := own_setCells (o := 0) (vs := xs) ho (by rw [hl, hx, Nat.zero_add]; exact Nat.le_refl _)
      have e : splice ys 0 xs = xs := by
        unfold splice
        rw [List.take_zero, List.nil_append, Nat.zero_add, hx, ← hl, List.drop_length, List.append_nil]
      rw [e] at q
      exact q
/-- A copy whose run is known, as one step of a drawn region. -/
theorem step_copy {P : Program} {ops : Array Oper} {o : Oper} {a : Act} {w w' : World} {K : Act → World → Prop} {Q : Exit → Act → World → Prop} {E : Prop}
    (hg : o.guard = none) (s x : Operand) (t tx : TypeId) (hop : o.op = Op.call { callee := Callee.builtin Builtin.copy, args := #[s, x], argTypes := #[t, tx] }) {v xv v' : Value}
    (hs : a.eval s = v) (hx : a.eval x = xv) (hrun : (Builtin.copy_ #[t, tx] o.type #[v, xv]).run P w = .ok v' w') (hK : K (a.put o.dst v') w') :
    if Region.wanted o (yielded ops a.tmps) = true then Oper.wp P o a w K Q else E := by
  rw [if_pos (by simp [Region.wanted, hg])]
  unfold Oper.wp
  simp only [execOp, hop, resolve, invoke, builtin, Sem.run_bind, Sem.run_pure, Result.andThen_ok, List.map_toArray, List.map_cons, List.map_nil, hs, hx, hrun]
  exact hK

set_option maxHeartbeats 4000000 in
theorem cdClone_c {w : World} {G : Nat → Prop} {q : Nat} {d : Dk.D} (h : CD w G q d) (hd : d.ok) :
    Calls Try.prog 25 #[.pointer (some ⟨q, 0, none⟩)] w (CNewOk (Dk.clone d) w) := by
  have H := Lib.hid h
  have NW := Lib.hid (show Dk.new (d.s.length : Int) = Dk.fresh d.s.length from dk_new_len hd.few)
  have hm : (d.s.length : Int) ≤ 9223372036854775807 := by have := hd.few; omega
  obtain ⟨AK, cK, m, AF, cF, lf, D, n, V, r, e⟩ := h
  have R := Lib.hid r
  have HD := Lib.hid hd
  have qlt := lt_of_block r.cell
  have c0 := r.fields.1
  clear r e hd
  go_enter Try.func25, Try.ntmps25
  go_wp2_with fail
  refine (cdSizeAt_c H.out).mono ?_
  rintro e w0 ⟨rfl, rfl⟩
  go_wp2_with fail
  refine (cdNew_c _ _ hm).mono ?_
  rw [NW.out]
  rintro e w1 ⟨q1, rfl, hq, hb1⟩
  obtain ⟨AK1, cK1, m1, AF1, cF1, lf1, D1, n1, V1, r1, e1⟩ := hq
  have f0 := r1.fields.1
  have g0 := (hb1.cell (p := ⟨q, 0, none⟩) qlt).trans c0
  have R1 := Lib.hid r1
  have E1 := Lib.hid e1
  have HB1 := Lib.hid hb1
  have SL : (Dk.fresh d.s.length).s.length = d.s.length := by simp [Dk.fresh]
  rw [SL] at f0
  have HSL := Lib.hid SL
  clear r1 e1 hb1 c0 hm SL
  go_wp2_with fail
  refine wp_region_held (S := fun u => u.cell? ⟨q1, 0, none⟩ = some (.slice AK1 d.s.length cK1) ∧ u.cell? ⟨q, 0, none⟩ = some (.slice AK d.s.length cK)) (by kernel_rfl) ?_
  change wpAnyH _ _ _ _ _ _ _ _ w1.drew
  have S0 : w1.drew.cell? ⟨q1, 0, none⟩ = some (.slice AK1 d.s.length cK1) ∧ w1.drew.cell? ⟨q, 0, none⟩ = some (.slice AK d.s.length cK) := ⟨f0, g0⟩
  refine wpAnyH_take (i := 0) (v := ?_) rfl (by kernel_rfl) (by kernel_rfl) (by kernel_rfl) (fun _ _ _ h => h) (Or.inl ⟨by rfl, ?_⟩) (by assumption) ?_
  rotate_left
  · intro u hu
    have c0 := hu.1
    have c1 := hu.2
    clear hu
    go_simp
    try rfl
  simp only [Act.put, List.setIfInBounds_toArray, List.set_cons_zero, List.set_cons_succ, List.getElem_toArray, List.getElem_cons_zero]
  refine wpAnyH_take (i := 1) (v := ?_) rfl (by kernel_rfl) (by kernel_rfl) (by kernel_rfl) (fun _ _ _ h => h) (Or.inl ⟨by rfl, ?_⟩) (by assumption) ?_
  rotate_left
  · intro u hu
    have c0 := hu.1
    have c1 := hu.2
    clear hu
    go_simp
    try rfl
  simp only [Act.put, List.setIfInBounds_toArray, List.set_cons_zero, List.set_cons_succ, List.getElem_toArray, List.getElem_cons_zero, List.getElem_cons_succ]
  refine wpAnyH_take (i := 2) (v := ?_) rfl (by kernel_rfl) (by kernel_rfl) (by kernel_rfl) (fun _ _ _ h => h) (Or.inl ⟨by rfl, ?_⟩) (by assumption) ?_
  rotate_left
  · intro u hu
    have c0 := hu.1
    have c1 := hu.2
    clear hu
    go_simp
    try rfl
  simp only [Act.put, List.setIfInBounds_toArray, List.set_cons_zero, List.set_cons_succ, List.getElem_toArray, List.getElem_cons_zero, List.getElem_cons_succ]
  refine wpAnyH_take (i := 3) (v := ?_) rfl (by kernel_rfl) (by kernel_rfl) (by kernel_rfl) (fun _ _ _ h => h) (Or.inl ⟨by rfl, ?_⟩) (by assumption) ?_
  rotate_left
  · intro u hu
    have c0 := hu.1
    have c1 := hu.2
    clear hu
    go_simp
    try rfl
  simp only [Act.put, List.setIfInBounds_toArray, List.set_cons_zero, List.set_cons_succ, List.getElem_toArray, List.getElem_cons_zero, List.getElem_cons_succ]
  refine wpAnyH_take (i := 4) (v := ?_) rfl (by kernel_rfl) (by kernel_rfl) (by kernel_rfl) (fun _ _ _ h => h) (Or.inl ⟨by rfl, ?_⟩) (by assumption) ?_
  rotate_left
  · intro u hu
    have c0 := hu.1
    have c1 := hu.2
    clear hu
    go_simp
    try rfl
  simp only [Act.put, List.setIfInBounds_toArray, List.set_cons_zero, List.set_cons_succ, List.getElem_toArray, List.getElem_cons_zero, List.getElem_cons_succ]
  refine wpAnyH_take (i := 5) (v := ?_) rfl (by kernel_rfl) (by kernel_rfl) (by kernel_rfl) (fun _ _ _ h => h) (Or.inl ⟨by rfl, ?_⟩) (by assumption) ?_
  rotate_left
  · intro u hu
    have c0 := hu.1
    have c1 := hu.2
    clear hu
    go_simp
    try rfl
  simp only [Act.put, List.setIfInBounds_toArray, List.set_cons_zero, List.set_cons_succ, List.getElem_toArray, List.getElem_cons_zero, List.getElem_cons_succ]
  refine wpAnyH_take (i := 6) (v := ?_) rfl (by kernel_rfl) (by kernel_rfl) (by kernel_rfl) (fun _ _ _ h => h) (Or.inl ⟨by rfl, ?_⟩) (by assumption) ?_
  rotate_left
  · intro u hu
    have c0 := hu.1
    have c1 := hu.2
    clear hu
    go_simp
    try rfl
  simp only [Act.put, List.setIfInBounds_toArray, List.set_cons_zero, List.set_cons_succ, List.getElem_toArray, List.getElem_cons_zero, List.getElem_cons_succ]
  refine wpAnyH_take (i := 7) (v := ?_) rfl (by kernel_rfl) (by kernel_rfl) (by kernel_rfl) (fun _ _ _ h => h) (Or.inl ⟨by rfl, ?_⟩) (by assumption) ?_
  rotate_left
  · intro u hu
    have c0 := hu.1
    have c1 := hu.2
    clear hu
    go_simp
    try rfl
  simp only [Act.put, List.setIfInBounds_toArray, List.set_cons_zero, List.set_cons_succ, List.getElem_toArray, List.getElem_cons_zero, List.getElem_cons_succ]
  refine wpAnyH_all (rs := [8]) (by kernel_rfl) (by simp) ?_
  intro j8 h8
  obtain rfl : j8 = 8 := by simpa using h8
  refine wpOp_step rfl (fun K hK => ?_)
  obtain ⟨ti, hi, iz0, iz1, iz2⟩ := info_parts Try.infoSector
  have ok1 := R1.out.k
  rw [HSL.out] at ok1
  have k64 := flat_len (f := bcells) (size := 64) (l := d.s) (fun b hb => kcell_len (HD.out.secs b hb))
  have k1 : ∀ u ∈ kcells d.s, u.oneCell' = true := fun u hu => by
    obtain ⟨b, _, hb⟩ := List.mem_flatMap.1 hu
    exact bcells_one b u hb
  obtain ⟨w9, hrun9, own9, gr9⟩ := run_copy_own (P := Try.prog) (w := w1.drew) (dT := 56) (sT := 56) (c2 := cK) (B := 0) 3 Try.underlying56 hi iz1 (show w1.drew.ownsRow 0 _ 64 _ _ _ from ok1) ((lies_own (B := 0) R.out.k).below (Nat.zero_le _) HB1.out.drew) k64 k1
  refine step_copy rfl _ _ 56 56 rfl rfl rfl hrun9 ?_
  have S9 : w9.cell? ⟨q1, 0, none⟩ = some (.slice AK1 d.s.length cK1) ∧ w9.cell? ⟨q, 0, none⟩ = some (.slice AK d.s.length cK) := by
    have T := grown_tch (B := 0) (ts := [62]) (show w1.drew.ownsRow 0 _ 64 _ _ _ from ok1) gr9 (Nat.le_refl _) (Nat.zero_le _) (by simp)
    have b1 : w9.heap[q1]? = w1.heap[q1]? := T.typed q1 _ _ _ (show w1.drew.heap[q1]? = _ from R1.out.cell) (by decide)
    have b2 : w9.heap[q]? = w1.heap[q]? := T.typed q _ _ _ (show w1.drew.heap[q]? = _ from (HB1.out.block q qlt).trans R.out.cell) (by decide)
    exact ⟨(World.cell?_of_block b1).trans f0, (World.cell?_of_block b2).trans g0⟩
  refine hK _ _ ⟨S9, ?_⟩
  clear hK K hrun9 h8
  try simp only [Act.put, List.setIfInBounds_toArray, List.set_cons_zero, List.set_cons_succ, List.getElem_toArray, List.getElem_cons_zero, List.getElem_cons_succ]
  refine wpAnyH_done (by kernel_rfl) ?_ _
  have O9 := Lib.hid own9
  have G9 := Lib.hid gr9
  clear own9 gr9 S0 S9 f0 g0 ok1 k64 k1 iz0 iz1 iz2 hi
  go_wp2
  go_ret
  refine ⟨q1, rfl, ⟨AK1, cK1, m1, AF1, cF1, lf1, D1, n1, V1, CD6.rekept R1.out HSL.out.symm ?_ ?_, E1.out⟩, HB1.out.drew.grown G9.out HB1.out.size (fun k e => ?_)⟩
  · rw [HSL.out]; exact ⟨G9.out.os, G9.out.tape, G9.out.output, G9.out.size, G9.out.block⟩
  · rw [HSL.out]; exact O9.out
  · exact R1.out.kF.row k e
end Go.Proofs.Ytogobeinckgjmaa
