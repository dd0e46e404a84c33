/- The code's own Disk: Write, Flush, Crash, Wipe, Clone. Stage 5: one disk among others, step by step. Stage 5: the document's disk among others, and two disks side by side. -/
import Derived.Test.YtpnfpeeijghamaaGreatDpe
import Derived.Test.YtpnfpeeijghamaaGreatDpa
import Derived.Test.YtpnfpeeijghamaaGreatDe
namespace Go.Proofs.YtpnfpeeijghamaaGreat
open Go.RowKit
set_option maxRecDepth 100000

set_option maxHeartbeats 2000000 in
theorem cdWrite_c {w : World} {G : Nat → Prop} {q : Nat} {d : Dk.D} {A : Option Addr} {n c : Nat} {b : List UInt8} {B : Nat} {t : TypeId} (h : CD w G q d) (hd : d.ok) (hl : d.left ≤ 9223372036854775807) (hcl : d.cache.length ≤ 100000000)
    (hL : Lies w B t A (bcells b)) (hBG : bcells b ≠ [] → InF (fun k => ¬ G k ∧ k < w.heap.size) A) (hn : n = b.length) (hs : n ≤ 1000000000) (_hc : n ≤ c) (i : Int) :
    Calls Tryz.prog 95 #[.pointer (some ⟨q, 0, none⟩), .int .i64 i, .slice A n c] w (CdOk G q (Dk.write d i b).1 (Dk.write d i b).2 w) := by
  have H := Lib.hid h
  have same : ∀ er, CdOk G q er d w (.returned (.int .i64 er)) w := fun er => ⟨rfl, h.mono up_self, But.refl _ _ _⟩
  have SM := Lib.hid same
  clear same
  cases hdd : d.dead
  · have HDD := Lib.hid hdd
    cases hh : Dk.has d i
    · have he : Dk.write d i b = (1, d) := by unfold Dk.write; rw [if_neg (by rw [hdd]; simp), if_pos hh]
      rw [he]
      have HH := Lib.hid hh
      clear he hh hdd hcl hl hd hL hBG hn h hs
      go_enter Tryz.func95, Tryz.ntmps95
      go_wp2_with fail
      refine (cdDead_at H.out).mono ?_
      rw [HDD.out]
      rintro e w0 ⟨rfl, rfl⟩
      go_wp2_with fail
      refine (cdHas_c H.out i).mono ?_
      rw [HH.out]
      rintro e w1 ⟨rfl, rfl⟩
      go_wp2
      go_ret
      exact SM.out 1
    · by_cases hb : 64 < b.length
      · have he : Dk.write d i b = (2, d) := by unfold Dk.write; rw [if_neg (by rw [hdd]; simp), if_neg (by rw [hh]; simp), if_pos hb]
        rw [he]
        have HH := Lib.hid hh
        have hb2 : (64 : Int) < (n : Int) := by omega
        clear he hh hdd hcl hl hd hL hBG hn h hb hs
        go_enter Tryz.func95, Tryz.ntmps95
        go_wp2_with fail
        refine (cdDead_at H.out).mono ?_
        rw [HDD.out]
        rintro e w0 ⟨rfl, rfl⟩
        go_wp2_with fail
        refine (cdHas_c H.out i).mono ?_
        rw [HH.out]
        rintro e w1 ⟨rfl, rfl⟩
        go_wp2
        go_ret
        exact SM.out 2
      · obtain ⟨k, rfl⟩ := Int.eq_ofNat_of_zero_le (Dk.has_iff.1 hh).1
        by_cases ha : (Dk.act d).1 = 0
        · have he : Dk.write d (k : Int) b = (0, Dk.put (Dk.act d).2 (k : Int) b) := by unfold Dk.write; rw [if_neg (by rw [hdd]; simp), if_neg (by rw [hh]; simp), if_neg hb, if_pos ha]
          rw [he]
          exact cdWrite_ok h hl hcl hd.few hL hBG hn k hh hdd (by omega) ha
        · have he : Dk.write d (k : Int) b = (50, (Dk.act d).2) := by
            unfold Dk.write; rw [if_neg (by rw [hdd]; simp), if_neg (by rw [hh]; simp), if_neg hb, if_neg ha]
            exact Prod.ext (Dk.act_no ha).1 rfl
          rw [he]
          have HA := Lib.hid (Dk.act_no ha).1
          have HH := Lib.hid hh
          have HL := Lib.hid hl
          have hb2 : (n : Int) ≤ 64 := by omega
          clear he hh hdd hcl hl hd hL hBG hn h hb ha hs
          go_enter Tryz.func95, Tryz.ntmps95
          go_wp2_with fail
          refine (cdDead_at H.out).mono ?_
          rw [HDD.out]
          rintro e w0 ⟨rfl, rfl⟩
          go_wp2_with fail
          refine (cdHas_c H.out k).mono ?_
          rw [HH.out]
          rintro e w1 ⟨rfl, rfl⟩
          go_wp2_with fail
          refine (cdSpend_c H.out HDD.out HL.out).mono ?_
          rw [HA.out]
          rintro e w1 ⟨rfl, hr1, hb1⟩
          go_wp2
          go_ret
          exact ⟨rfl, hr1, hb1⟩
  · have he : Dk.write d i b = (50, d) := by unfold Dk.write; rw [if_pos hdd]
    rw [he]
    have HDD := Lib.hid hdd
    clear he hdd hcl hl hd hL hBG hn h hs
    go_enter Tryz.func95, Tryz.ntmps95
    go_wp2_with fail
    refine (cdDead_at H.out).mono ?_
    rw [HDD.out]
    rintro e w0 ⟨rfl, rfl⟩
    go_wp2
    go_ret
    exact SM.out 50

theorem up_up {G : Nat → Prop} {B B' : Nat} (h : B ≤ B') : ∀ k, Up (Up G B) B' k → Up G B k := fun _ q => q.elim id (fun r => Or.inr (by omega))

set_option maxHeartbeats 2000000 in
theorem cdFlush_c {w : World} {G : Nat → Prop} {q : Nat} {d : Dk.D} (h : CD w G q d) (hd : d.ok) (hl : d.left ≤ 9223372036854775807) (hcl : d.cache.length ≤ 100000000) :
    Calls Tryz.prog 103 #[.pointer (some ⟨q, 0, none⟩)] w (CdOk G q (Dk.flush d).1 (Dk.flush d).2 w) := by
  have H := Lib.hid h
  have c5 := (show w.cell? ⟨q, 5, none⟩ = some (.bool d.dead) by
    obtain ⟨AK, cK, m, AF, cF, lf, D, n, V, r, e⟩ := h
    exact r.fields.2.2.2.2.2.1)
  cases hdd : d.dead
  · rw [hdd] at c5
    have HDD := Lib.hid hdd
    have HL := Lib.hid hl
    by_cases ha : (Dk.act d).1 = 0
    · have he : Dk.flush d = (0, { (Dk.act d).2 with s := Dk.keepBy (fun _ => true) 0 (Dk.act d).2.s (Dk.act d).2.cache, cache := [] }) := by
        unfold Dk.flush; rw [if_pos ha, Dk.keepAll_by, Dk.act_s, Dk.act_cache]
      rw [he]
      have HA := Lib.hid ha
      have OK := Lib.hid (Dk.act_ok hd)
      have CL := Lib.hid (show (Dk.act d).2.cache.length ≤ 100000000 by rw [Dk.act_cache]; exact hcl)
      clear he ha hdd h hd hl hcl
      go_enter Tryz.func103, Tryz.ntmps103
      go_wp2_with fail
      refine (cdMade_c H.out).mono ?_
      rintro e w0 ⟨rfl, rfl⟩
      go_wp2_with fail
      refine (cdSpend_c H.out HDD.out HL.out).mono ?_
      rw [HA.out]
      rintro e w1 ⟨rfl, hr1, hb1⟩
      have HR1 := Lib.hid hr1
      have HB1 := Lib.hid hb1
      have z1 := hb1.size
      clear hr1 hb1 c5
      go_wp2_with fail
      refine (cdSettleF_c HR1.out OK.out CL.out).mono ?_
      rintro e w2 ⟨rfl, hr2, hb2⟩
      have HR2 := Lib.hid hr2
      have HB2 := Lib.hid hb2
      clear hr2 hb2
      go_wp2
      go_ret
      exact ⟨rfl, HR2.out.mono (up_up z1), HB1.out.trans ⟨HB2.out.os, HB2.out.tape, HB2.out.output, HB2.out.size, fun k hk hg => HB2.out.block k (by omega) (fun g => g.elim hg (fun r => by omega))⟩⟩
    · have he : Dk.flush d = (50, (Dk.act d).2) := by
        unfold Dk.flush; rw [if_neg ha]
        exact Prod.ext (Dk.act_no ha).1 rfl
      rw [he]
      have HA := Lib.hid (Dk.act_no ha).1
      clear he ha hdd h hd hl hcl
      go_enter Tryz.func103, Tryz.ntmps103
      go_wp2_with fail
      refine (cdMade_c H.out).mono ?_
      rintro e w0 ⟨rfl, rfl⟩
      go_wp2_with fail
      refine (cdSpend_c H.out HDD.out HL.out).mono ?_
      rw [HA.out]
      rintro e w1 ⟨rfl, hr1, hb1⟩
      go_wp2
      go_ret
      exact ⟨rfl, hr1, hb1⟩
  · have he : Dk.flush d = (50, d) := by
      have ea : Dk.act d = (50, d) := by
        unfold Dk.act
        rw [if_pos (Or.inl hdd)]
        obtain ⟨s, ca, bd, lf, dd⟩ := d
        have : dd = true := hdd
        subst this
        rfl
      unfold Dk.flush
      rw [ea, if_neg (show ¬ (50 : Int) = 0 by decide)]
    rw [he]
    rw [hdd] at c5
    clear he hdd hd hl hcl h
    go_enter Tryz.func103, Tryz.ntmps103
    go_wp2_with fail
    refine (cdMade_c H.out).mono ?_
    rintro e w0 ⟨rfl, rfl⟩
    go_wp2
    go_ret
    exact ⟨rfl, H.out.mono up_self, But.refl _ _ _⟩

set_option maxHeartbeats 2000000 in
theorem cdCrash_c {w : World} {G : Nat → Prop} {q : Nat} {d : Dk.D} {AK : Option Addr} {nK cK : Nat} {ks : List Bool} {BK : Nat} {tK : TypeId} (h : CD w G q d) (hd : d.ok) (hcl : d.cache.length ≤ 100000000) (hK : Lies w BK tK AK (ks.map Value.bool)) (hKG : ks.map Value.bool ≠ [] → InF (fun k => ¬ G k ∧ k < w.heap.size) AK) (hn : nK = ks.length) (hns : nK ≤ 1000000000) (_hc : nK ≤ cK) :
    Calls Tryz.prog 20 #[.pointer (some ⟨q, 0, none⟩), .slice AK nK cK] w (CdOk0 G q (Dk.crash d ks) w) := by
  have hmf : ∀ (fn : Fn) (first cap : Array Value) (w : World), (Instr.makeFunc fn first cap).run Tryz.prog w = .ok (.func fn first cap) w := fun _ _ _ _ => rfl
  have wa := (Below.refl w.heap.size w).alloc (Nat.le_refl _) (.cells #[.slice AK nK cK] 38)
  have H : Hid (CD (w.alloc (.cells #[.slice AK nK cK] 38)) (fun k => G k ∧ k < w.heap.size) q d) := Lib.hid (h.cap.keep fun k g _ => wa.block k g.2)
  have BX : Hid ((w.alloc (.cells #[.slice AK nK cK] 38)).cell? ⟨w.heap.size, 0, none⟩ = some (.slice AK nK cK)) := Lib.hid (by simp)
  have LK : Hid (Lies (w.alloc (.cells #[.slice AK nK cK] 38)) w.heap.size tK AK (ks.map Value.bool)) := Lib.hid (hK.old.alloc (Nat.le_refl _) _)
  have IK : Hid (ks.map Value.bool ≠ [] → InF (fun k => ¬ (G k ∧ k < w.heap.size) ∧ k < (w.alloc (.cells #[.slice AK nK cK] 38)).heap.size) AK) := Lib.hid fun h0 ad e => ⟨fun g => (hKG h0 ad e).1 g.1, Nat.lt_of_lt_of_le (hKG h0 ad e).2 wa.size⟩
  have HD := Lib.hid hd
  have HN := Lib.hid hn
  have WA := Lib.hid wa
  have CR : Hid (Dk.crash d ks = { d with s := Dk.keepBy (fun t => ks.getD t false) 0 d.s d.cache, cache := [], left := -1, dead := false }) := Lib.hid (by unfold Dk.crash; rw [Dk.keepSome_by])
  clear h hd hK hKG hn wa
  go_enter Tryz.func20, Tryz.ntmps20
  go_wp2_with fail
  refine (cdSettleC_c H.out HD.out hcl BX.out (fun g => Nat.lt_irrefl _ g.2) (by simp) LK.out IK.out HN.out hns).mono ?_
  rintro e w1 ⟨rfl, hr1, hb1⟩
  obtain ⟨AK1, cK1, m1, AF1, cF1, lf1, D1, n1, V1, r1, e1⟩ := hr1
  obtain ⟨_, _, _, _, d4, d5, fz⟩ := r1.fields
  have f4 := fz 4
  have f5 := fz 5
  have R1 := Lib.hid r1
  have HB1 := Lib.hid hb1
  have upG : ∀ k, Up (fun k => G k ∧ k < w.heap.size) (w.alloc (.cells #[.slice AK nK cK] 38)).heap.size k → Up G w.heap.size k := fun k g => g.elim (fun g => .inl g.1) (fun g => .inr (Nat.le_trans WA.out.size g))
  have UG := Lib.hid upG
  clear r1 hb1 e1 fz upG hcl hns
  go_wp2
  go_end0
  rw [CR.out]
  refine ⟨rfl, ⟨AK1, cK1, m1, AF1, cF1, -1, D1, n1, V1, (CD6.reset (lf' := -1) (dead' := false) R1.out ?_ ?_).mono UG.out, by rw [if_neg (by omega)]⟩, ?_⟩
  · rw [blk_set (blk_set R1.out.cell 4 _)]; rfl
  · exact fun k hk => (set_off k hk).trans (set_off k hk)
  · have b : But G w.heap.size w w1 := (But.of_below WA.out G).trans (But.mono HB1.out WA.out.size (fun k g => g.1))
    exact (b.setCell (UG.out _ R1.out.fp) _).setCell (UG.out _ R1.out.fp) _

/-- The disk of block q1, put into block q. -/
theorem CD6.moved {w w' : World} {F G : Nat → Prop} {q q1 : Nat} {AK : Option Addr} {cK m : Nat} {AF : Option Addr} {cF : Nat} {lf : Int} {s : List (List UInt8)} {c : List (Nat × List UInt8)} {bad : List Bool} {dead : Bool} {D : DataW Value} {n : Nat} {V : Nat → Option Addr × Nat}
    (h : CD6 w G q1 AK cK m AF cF lf s c bad dead D n V)
    (hq : w'.heap[q]? = some (.cells #[.slice AK s.length cK, .map (some m), .int .i64 (c.length : Int), .slice AF bad.length cF, .int .i64 lf, .bool dead] 81 (0, 0))) (hk : ∀ k, k ≠ q → w'.heap[k]? = w.heap[k]?) (hG : ¬ G q) (hF : F q) (hGF : ∀ k, G k → F k) : CD6 w' F q AK cK m AF cF lf s c bad dead D n V :=
  have hh : ∀ k, G k → w'.heap[k]? = w.heap[k]? := fun k g => hk k (fun e => hG (e ▸ g))
  ⟨hF, hq, own_keepG h.k h.kF (fun k g _ => hh k g), h.kF.mono hGF, hGF m h.mF, map_keep h.map (hh m h.mF), h.few, h.look, h.has, h.keys, fun i hi => own_keepG (h.row i hi) (h.rowF i hi) (fun k g _ => hh k g), fun i hi => (h.rowF i hi).mono hGF, h.apart, own_keepG h.f h.fF (fun k g _ => hh k g), h.fF.mono hGF⟩

theorem dk_new_len {n : Nat} (h : n ≤ 4096) : Dk.new (n : Int) = Dk.fresh n := by
  unfold Dk.new Dk.count
  rw [Int.toNat_natCast, Nat.min_eq_left h]

/-- Only the kept sectors have turned. -/
theorem CD6.rekept {w w' : World} {G : Nat → Prop} {q : Nat} {AK : Option Addr} {cK m : Nat} {AF : Option Addr} {cF : Nat} {lf : Int} {s s' : List (List UInt8)} {bad : List Bool} {dead : Bool} {D : DataW Value} {n : Nat} {V : Nat → Option Addr × Nat}
    (h : CD6 w G q AK cK m AF cF lf s [] bad dead D n V) (hs : s'.length = s.length) (hk : w.grownBy w' (Value.slice AK s.length cK).ownBlock) (ho : w'.ownsRow 0 125 64 (.slice AK s.length cK) s.length (kcells s')) : CD6 w' G q AK cK m AF cF lf s' [] bad dead D n V := by
  have T := grown_tch (B := 0) (ts := [125]) h.k hk (Nat.le_refl _) (Nat.zero_le _) (by simp)
  refine ⟨h.fp, by rw [hs]; exact T.blk h.cell (by decide), by rw [hs]; exact ho, h.kF, h.mF, ?_, h.few, fun i hi => h.look i (hs ▸ hi), fun i hi => h.has i (hs ▸ hi), fun kl hkl => ?_, fun i hi => own_tch (h.row i (hs ▸ hi)) T (by decide), fun i hi => h.rowF i (hs ▸ hi), fun i j hi hj => h.apart i j (hs ▸ hi) (hs ▸ hj), own_tch h.f T (by decide), h.fF⟩
  · refine map_keep h.map (hk.block m h.map.lt (fun e => ?_))
    obtain ⟨_, cs, fr, hb⟩ := own_row h.k m e.symm
    exact map_ne h.map hb rfl
  · rw [hs]; exact h.keys kl hkl
theorem run_copy_own {P : Program} {w : World} {dT sT elem t : TypeId} {i : TypeInfo} {size n c c2 : Nat} {A A2 : Option Addr} {ys xs : List Value} {B : Nat} (ty : TypeId) (hu : P.underlying dT = some (.slice elem)) (hi : P.info? elem = some i) (hs : i.size = size)
    (ho : w.ownsRow 0 elem size (.slice A n c) n ys) (hL : Lies w B t A2 xs) (hx : xs.length = n * size) (h1 : ∀ u ∈ xs, u.oneCell' = true) :
    ∃ w', (Builtin.copy_ #[dT, sT] ty #[.slice A n c, .slice A2 n c2]).run P w = .ok (goInt n) w' ∧ w'.ownsRow 0 elem size (.slice A n c) n xs ∧ w.grownBy w' (Value.slice A n c).ownBlock := by
  have hl : ys.length = n * size := ho.1
  by_cases hz : xs = []
  · subst hz
    have hn0 : n * size = 0 := hx.symm
    have hy : ys = [] := List.eq_nil_of_length_eq_zero (by rw [hl, hn0])
    refine ⟨w, ?_, hy ▸ ho, World.grownBy.refl w _⟩
    cases A <;> cases A2 <;> simp [Builtin.copy_, run_underlying hu, Builtin.lenOf, Builtin.firstCells, sizeOf, typeInfo, hi, hs, hn0, storeCells, loadCells, loadCellsFrom]
  · obtain ⟨ad, rfl, _, hc⟩ := hL hz
    have hpos : 0 < n := by
      rcases Nat.eq_zero_or_pos n with q | q
      · rw [q, Nat.zero_mul] at hx; exact absurd (List.eq_nil_of_length_eq_zero hx) hz
      · exact q
    obtain ⟨g, cp, hA, _, _⟩ := ho.form hpos
    injection hA with hA _ _
    subst hA
    have th := own_there ho (o := 0) (m := xs.length) (by rw [hl, hx, Nat.zero_add]; exact Nat.le_refl _)
    have ld := run_loadCells_list (P := P) w ad xs hc
    rw [hx] at ld
    have st := run_storeCells_cells (P := P) g 0 xs 0 w (fun j hj => by simpa using (th j hj).1) (fun j hj => by simpa using (th j hj).2) h1
    refine ⟨w.setCells g 0 xs, ?_, ?_, grown_setCells g xs 0 w⟩
    · simp [Builtin.copy_, run_underlying hu, Builtin.lenOf, Builtin.firstCells, sizeOf, typeInfo, hi, hs, ld, st]
    · have q := own_setCells (o := 0) (vs := xs) ho (by rw [hl, hx, Nat.zero_add]; exact Nat.le_refl _)
      have e : splice ys 0 xs = xs := by
        unfold splice
        rw [List.take_zero, List.nil_append, Nat.zero_add, hx, ← hl, List.drop_length, List.append_nil]
      rw [e] at q
      exact q
/-- A copy whose run is known, as one step of a drawn region. -/
theorem step_copy {P : Program} {ops : Array Oper} {o : Oper} {a : Act} {w w' : World} {K : Act → World → Prop} {Q : Exit → Act → World → Prop} {E : Prop}
    (hg : o.guard = none) (s x : Operand) (t tx : TypeId) (hop : o.op = Op.call { callee := Callee.builtin Builtin.copy, args := #[s, x], argTypes := #[t, tx] }) {v xv v' : Value}
    (hs : a.eval s = v) (hx : a.eval x = xv) (hrun : (Builtin.copy_ #[t, tx] o.type #[v, xv]).run P w = .ok v' w') (hK : K (a.put o.dst v') w') :
    if Region.wanted o (yielded ops a.tmps) = true then Oper.wp P o a w K Q else E := by
  rw [if_pos (by simp [Region.wanted, hg])]
  unfold Oper.wp
  simp only [execOp, hop, resolve, invoke, builtin, Sem.run_bind, Sem.run_pure, Result.andThen_ok, List.map_toArray, List.map_cons, List.map_nil, hs, hx, hrun]
  exact hK

/-- The code's disk at q: its blocks are G's, from B on, and there now. -/
structure CS (w : World) (B : Nat) (G : Nat → Prop) (q : Nat) (d : Dk.D) : Prop where
  cd : CD w G q d
  old : ∀ k, G k → B ≤ k ∧ k < w.heap.size
theorem CS.keep {w w' : World} {B : Nat} {G : Nat → Prop} {q : Nat} {d : Dk.D} (h : CS w B G q d) (hb : Below w.heap.size w w') : CS w' B G q d :=
  ⟨h.cd.keep (fun k _ hk => hb.block k hk), fun k hk => ⟨(h.old k hk).1, Nat.lt_of_lt_of_le (h.old k hk).2 hb.size⟩⟩
/-- Behind a call on another disk. -/
theorem CS.but {w w' : World} {B : Nat} {F G : Nat → Prop} {q : Nat} {d : Dk.D} (h : CS w B G q d) (hb : But F w.heap.size w w') (hF : ∀ k, G k → ¬ F k) : CS w' B G q d :=
  ⟨h.cd.keep (fun k hk hl => hb.block k hl (hF k hk)), fun k hk => ⟨(h.old k hk).1, Nat.lt_of_lt_of_le (h.old k hk).2 hb.size⟩⟩
/-- What a call on the disk left of it: G2's blocks are G's, or new. -/
structure CStep (w w' : World) (B : Nat) (G G2 : Nat → Prop) (q : Nat) (d : Dk.D) : Prop where
  cs : CS w' B G2 q d
  new : ∀ k, k < w.heap.size → G2 k → G k
  but : But G w.heap.size w w'
  below : Below B w w'
theorem cstep {w w' : World} {B : Nat} {G : Nat → Prop} {q : Nat} {d d' : Dk.D} (h : CS w B G q d) (hB : B ≤ w.heap.size) (hc : CD w' (Up G w.heap.size) q d') (hb : But G w.heap.size w w') : ∃ G2, CStep w w' B G G2 q d' := by
  refine ⟨fun k => Up G w.heap.size k ∧ k < w'.heap.size, ⟨hc.cap, fun k hk => ⟨?_, hk.2⟩⟩, fun k hk hg => ?_, hb, ?_⟩
  · rcases hk.1 with g | g
    · exact (h.old k g).1
    · exact Nat.le_trans hB g
  · rcases hg.1 with g | g
    · exact g
    · omega
  · exact ⟨hb.os, hb.tape, hb.output, hb.size, fun k hk => hb.block k (by omega) (fun g => by have := (h.old k g).1; omega)⟩
theorem CdOk.step {w w' : World} {B : Nat} {G : Nat → Prop} {q : Nat} {d d' : Dk.D} {er : Int} {e : Ending} (h : CS w B G q d) (hB : B ≤ w.heap.size) (hp : CdOk G q er d' w e w') : e = .returned (.int .i64 er) ∧ ∃ G2, CStep w w' B G G2 q d' := ⟨hp.1, cstep h hB hp.2.1 hp.2.2⟩
theorem CdOk0.step {w w' : World} {B : Nat} {G : Nat → Prop} {q : Nat} {d d' : Dk.D} {e : Ending} (h : CS w B G q d) (hB : B ≤ w.heap.size) (hp : CdOk0 G q d' w e w') : e = .returned (.tuple #[]) ∧ ∃ G2, CStep w w' B G G2 q d' := ⟨hp.1, cstep h hB hp.2.1 hp.2.2⟩
theorem CNewOk.step {w w' : World} {B : Nat} {d : Dk.D} {e : Ending} (hB : B ≤ w.heap.size) (hp : CNewOk d w e w') : ∃ q G, e = .returned (.pointer (some ⟨q, 0, none⟩)) ∧ CS w' B G q d ∧ (∀ k, k < w.heap.size → ¬ G k) ∧ Below w.heap.size w w' := by
  obtain ⟨q, he, hc, hb⟩ := hp
  exact ⟨q, fun k => w.heap.size ≤ k ∧ k < w'.heap.size, he, ⟨hc.cap, fun k hk => ⟨Nat.le_trans hB hk.1, hk.2⟩⟩, fun k hk hg => by omega, hb⟩
namespace Dk
/-- A disk that isn't dead nor armed, with few writes cached. -/
def Live (k : Nat) (d : D) : Prop := d.ok ∧ d.left = -1 ∧ d.dead = false ∧ d.cache.length ≤ k
theorem act_live {k : Nat} {d : D} (h : Live k d) : act d = (0, d) := by
  unfold act
  rw [if_neg (by rw [h.2.2.1, h.2.1]; simp), if_neg (by rw [h.2.1]; decide)]
theorem write_live {k : Nat} {d : D} (h : Live k d) (i : Int) (b : List UInt8) : Live (k + 1) (write d i b).2 := by
  have ok := write_ok h.1 i b
  refine ⟨ok, ?_⟩
  have up : d.left = -1 ∧ d.dead = false ∧ d.cache.length ≤ k + 1 := ⟨h.2.1, h.2.2.1, Nat.le_succ_of_le h.2.2.2⟩
  unfold write
  split
  · exact up
  split
  · exact up
  split
  · exact up
  rw [act_live h, if_pos rfl]
  refine ⟨h.2.1, h.2.2.1, ?_⟩
  show (d.cache ++ [_]).length ≤ k + 1
  rw [List.length_append]
  have := h.2.2.2
  simp; omega
theorem flush_live {k : Nat} {d : D} (h : Live k d) : Live k (flush d).2 := by
  have ok := flush_ok h.1
  refine ⟨ok, ?_⟩
  unfold flush
  rw [act_live h, if_pos rfl]
  exact ⟨h.2.1, h.2.2.1, Nat.zero_le _⟩
theorem flush_fine {k : Nat} {d : D} (h : Live k d) : (flush d).1 = 0 := by
  unfold flush
  rw [act_live h, if_pos rfl]
theorem new_live (n : Int) : Live 0 (new n) := ⟨new_ok n, rfl, rfl, Nat.le_refl _⟩
theorem write_new (n i : Int) (b : List UInt8) : Live 1 (write (new n) i b).2 := write_live (new_live n) i b
end Dk
/-- What is older than the disk. -/
theorem Lies.far {w wr : World} {G : Nat → Prop} {t : TypeId} {A : Option Addr} {xs : List Value} (h : Lies w w.heap.size t A xs) (hG : ∀ k, G k → w.heap.size ≤ k ∧ k < wr.heap.size) (hz : w.heap.size ≤ wr.heap.size) : xs ≠ [] → InF (fun k => ¬ G k ∧ k < wr.heap.size) A := fun hx ad e => by
  obtain ⟨ad', rfl, hb, _⟩ := h hx
  injection e with e
  subst e
  have : ad'.block < w.heap.size := by
    rcases hb with q | ⟨_, _, q⟩
    · exact q
    · exact lt_of_block q
  exact ⟨fun g => by have := (hG _ g).1; omega, by omega⟩
theorem CS.far {w : World} {B : Nat} {G : Nat → Prop} {q : Nat} {d : Dk.D} (h : CS w B G q d) (o : Obj) {xs : List Value} : xs ≠ [] → InF (fun k => ¬ G k ∧ k < (w.alloc o).heap.size) (some ⟨w.heap.size, 0, none⟩) := fun _ ad e => by
  injection e with e
  subst e
  exact ⟨fun g => Nat.lt_irrefl _ (h.old _ g).2, by simp⟩

section
variable {B : Nat} {w w' : World} {G F G2 F2 : Nat → Prop} {q p q2 p2 : Nat} {D E D2 E2 : Dk.D}
/-- The document's disk's fields. -/
def Three (p : Nat) (d : Dk.D) (AS AC : Option Addr) (cS cC : Nat) (u : World) : Prop :=
  u.cell? ⟨p, 0, none⟩ = some (.slice AS d.s.length cS) ∧ u.cell? ⟨p, 1, none⟩ = some (.slice AC d.cache.length cC) ∧ u.cell? ⟨p, 4, none⟩ = some (.bool d.dead)
/-- A cell of a block that was there ahead of a call on either disk, and is neither's. -/
theorem CStep.cell {B : Nat} {v : Value} {g i : Nat} (h : CStep w w' B G G2 q D) (hg : g < w.heap.size) (hn : ¬ G g) (hc : w.cell? ⟨g, i, none⟩ = some v) : w'.cell? ⟨g, i, none⟩ = some v :=
  (World.cell?_of_block (h.but.block g hg hn)).trans hc
end

namespace Dk
/-- What holds of a disk behind k deeds. -/
structure Fine (k : Nat) (d : D) : Prop where
  ok : d.ok
  left : d.left ≤ 9223372036854775807
  few : d.cache.length ≤ k
section
variable {k : Nat} {d : D}
theorem Fine.next (h : Fine k d) : Fine (k + 1) d := ⟨h.ok, h.left, Nat.le_succ_of_le h.few⟩
theorem act_left (h : d.left ≤ 9223372036854775807) : (act d).2.left ≤ 9223372036854775807 := by
  unfold act
  split
  · exact h
  · split
    · show d.left - 1 ≤ _; omega
    · exact h
theorem Fine.act (h : Fine k d) : Fine k (act d).2 := ⟨act_ok h.ok, act_left h.left, by rw [act_cache]; exact h.few⟩
theorem Fine.write (h : Fine k d) (i : Int) (b : List UInt8) : Fine (k + 1) (write d i b).2 := by
  refine ⟨write_ok h.ok i b, ?_, ?_⟩
  · unfold Dk.write
    repeat' split
    all_goals first | exact h.left | exact h.act.left
  · unfold Dk.write
    repeat' split
    all_goals first | exact h.next.few | exact h.act.next.few | skip
    show ((Dk.act d).2.cache ++ [_]).length ≤ k + 1
    rw [List.length_append]
    have := h.act.few
    simp; omega
theorem Fine.flush (h : Fine k d) : Fine (k + 1) (flush d).2 := by
  refine ⟨flush_ok h.ok, ?_, ?_⟩
  · unfold Dk.flush
    split
    all_goals exact h.act.left
  · unfold Dk.flush
    split
    · exact Nat.zero_le _
    · exact h.act.next.few
theorem Fine.arm (h : Fine k d) {n : Int} (hn : n ≤ 9223372036854775807) : Fine (k + 1) (arm d n) := ⟨arm_ok h.ok n, by show (if 0 ≤ n then n else -1) ≤ _; split <;> omega, h.next.few⟩
theorem Fine.crash (h : Fine k d) (ks : List Bool) : Fine (k + 1) (crash d ks) := ⟨crash_ok h.ok ks, by show (-1 : Int) ≤ _; omega, Nat.zero_le _⟩
theorem Fine.fault (h : Fine k d) (i : Int) (on : Bool) : Fine (k + 1) (fault d i on) := by
  refine ⟨fault_ok h.ok i on, ?_, ?_⟩
  · unfold Dk.fault
    split
    all_goals exact h.left
  · unfold Dk.fault
    split
    all_goals exact h.next.few
theorem Fine.wipe (h : Fine k d) : Fine (k + 1) (wipe d) := ⟨wipe_ok h.ok, by show (-1 : Int) ≤ _; omega, Nat.zero_le _⟩
theorem Fine.clone (h : Fine k d) : Fine (k + 1) (clone d) := ⟨clone_ok h.ok, by show (-1 : Int) ≤ _; omega, Nat.zero_le _⟩
theorem Fine.new (n : Int) : Fine 0 (new n) := ⟨new_ok n, by show (-1 : Int) ≤ _; omega, Nat.le_refl _⟩
end
end Dk
end Go.Proofs.YtpnfpeeijghamaaGreat
