/- The code's own Disk: Write, where the map's block is told and stays. -/
import Derived.Test.YtpnfpeeijghamaaGreatDp
import Derived.Test.YtpnfpeeijghamaaGreatRg
namespace Go.Proofs.YtpnfpeeijghamaaGreat
open Go.RowKit
set_option maxRecDepth 100000

/-- The code's Disk at block q, its map at block m. -/
def CDm (w : World) (G : Nat → Prop) (q m : Nat) (d : Dk.D) : Prop :=
  ∃ (AK : Option Addr) (cK : Nat) (AF : Option Addr) (cF : Nat) (lf : Int) (D : DataW Value) (n : Nat) (V : Nat → Option Addr × Nat), CD6 w G q AK cK m AF cF lf d.s d.cache d.bad d.dead D n V ∧ d.left = (if 0 ≤ lf then lf else -1)
theorem CDm.cd {w : World} {G : Nat → Prop} {q m : Nat} {d : Dk.D} (h : CDm w G q m d) : CD w G q d := by
  obtain ⟨AK, cK, AF, cF, lf, D, n, V, r, e⟩ := h
  exact ⟨AK, cK, m, AF, cF, lf, D, n, V, r, e⟩
theorem CD.m {w : World} {G : Nat → Prop} {q : Nat} {d : Dk.D} (h : CD w G q d) : ∃ m, CDm w G q m d := by
  obtain ⟨AK, cK, m, AF, cF, lf, D, n, V, r, e⟩ := h
  exact ⟨m, AK, cK, AF, cF, lf, D, n, V, r, e⟩
theorem CDm.lt {w : World} {G : Nat → Prop} {q m : Nat} {d : Dk.D} (h : CDm w G q m d) : m < w.heap.size ∧ G m := by
  obtain ⟨AK, cK, AF, cF, lf, D, n, V, r, e⟩ := h
  exact ⟨r.map.lt, r.mF⟩
theorem CDm.keep {w w' : World} {G : Nat → Prop} {q m : Nat} {d : Dk.D} (h : CDm w G q m d) (hk : ∀ k, G k → k < w.heap.size → w'.heap[k]? = w.heap[k]?) : CDm w' G q m d := by
  obtain ⟨AK, cK, AF, cF, lf, D, n, V, r, e⟩ := h
  exact ⟨AK, cK, AF, cF, lf, D, n, V, r.keep hk, e⟩
theorem CDm.mono {w : World} {F G : Nat → Prop} {q m : Nat} {d : Dk.D} (h : CDm w F q m d) (hF : ∀ k, F k → G k) : CDm w G q m d := by
  obtain ⟨AK, cK, AF, cF, lf, D, n, V, r, e⟩ := h
  exact ⟨AK, cK, AF, cF, lf, D, n, V, r.mono hF, e⟩
/-- Only cells and the map are a disk's. -/
theorem CDm.tight {w : World} {G : Nat → Prop} {q m : Nat} {d : Dk.D} (h : CDm w G q m d) : CDm w (fun k => G k ∧ (k = m ∨ ∃ cs t fr, w.heap[k]? = some (.cells cs t fr))) q m d := by
  obtain ⟨AK, cK, AF, cF, lf, D, n, V, r, e⟩ := h
  have ro : ∀ {t : TypeId} {size nn c k : Nat} {A : Option Addr} {xs : List Value}, w.ownsRow 0 t size (.slice A nn c) k xs → InF G A → InF (fun k => G k ∧ (k = m ∨ ∃ cs t fr, w.heap[k]? = some (.cells cs t fr))) A := fun ho hF ad ea => by
    obtain ⟨_, cs, fr, rr⟩ := own_row ho ad.block (by rw [ea]; rfl)
    exact ⟨hF ad ea, .inr ⟨cs, _, fr, rr⟩⟩
  exact ⟨AK, cK, AF, cF, lf, D, n, V, ⟨⟨r.fp, .inr ⟨_, _, _, r.cell⟩⟩, r.cell, r.k, ro r.k r.kF, ⟨r.mF, .inl rfl⟩, r.map, r.few, r.look, r.has, r.keys, r.row, fun i hi => ro (r.row i hi) (r.rowF i hi), r.apart, r.f, ro r.f r.fF⟩, e⟩
def CdOkM (G : Nat → Prop) (q m : Nat) (er : Int) (d : Dk.D) (w : World) (e : Ending) (w' : World) : Prop := e = .returned (.int .i64 er) ∧ CDm w' (Up G w.heap.size) q m d ∧ But G w.heap.size w w'

set_option maxHeartbeats 1000000 in
theorem cdSpend_m {w : World} {G : Nat → Prop} {q m : Nat} {d : Dk.D} (h : CDm w G q m d) (hd : d.dead = false) (hl : d.left ≤ 9223372036854775807) :
    Calls Tryz.prog 112 #[.pointer (some ⟨q, 0, none⟩)] w (CdOkM G q m (Dk.act d).1 (Dk.act d).2 w) := by
  obtain ⟨AK, cK, AF, cF, lf, D, n, V, r, e⟩ := h
  obtain ⟨_, _, _, _, c4, c5, fz⟩ := r.fields
  have R := Lib.hid r
  have f4 := fz 4
  have f5 := fz 5
  have fp := r.fp
  clear r fz
  by_cases h0 : lf = 0
  · subst h0
    have hl0 : d.left = 0 := e
    have he : Dk.act d = (50, { d with dead := true }) := by unfold Dk.act; rw [if_pos (Or.inr hl0)]
    have HE := Lib.hid he
    have E := Lib.hid e
    clear he hl0 e hl hd
    go_enter Tryz.func112, Tryz.ntmps112
    go_wp2
    go_ret
    rw [HE.out]
    refine ⟨rfl, ⟨AK, cK, AF, cF, 0, D, n, V, (CD6.reset (lf' := 0) (dead' := true) R.out ?_ set_off).mono up_self, E.out⟩, (But.refl _ _ _).setCell (Or.inl fp) _⟩
    rw [blk_set R.out.cell]; rfl
  · have q0 : (lf == 0) = false := by simpa using h0
    by_cases h1 : 0 < lf
    · have hl1 : d.left = lf := by rw [e, if_pos (by omega)]
      have he : Dk.act d = (0, { d with left := d.left - 1 }) := by unfold Dk.act; rw [if_neg (by rw [hd, hl1]; simp [h0]), if_pos (by omega)]
      have hlf : lf ≤ 9223372036854775807 := by omega
      have HE := Lib.hid he
      have HL := Lib.hid hl1
      clear he e hl hl1 hd
      go_enter Tryz.func112, Tryz.ntmps112
      go_wp2
      go_ret
      rw [HE.out]
      refine ⟨rfl, ⟨AK, cK, AF, cF, lf - 1, D, n, V, (CD6.reset (lf' := lf - 1) (dead' := d.dead) R.out ?_ set_off).mono up_self, ?_⟩, (But.refl _ _ _).setCell (Or.inl fp) _⟩
      · rw [blk_set R.out.cell]; rfl
      · rw [if_pos (by omega)]
        show d.left - 1 = lf - 1
        rw [HL.out]
    · have hl1 : d.left = -1 := by rw [e, if_neg (by omega)]
      have he : Dk.act d = (0, d) := by unfold Dk.act; rw [if_neg (by rw [hd, hl1]; simp), if_neg (by omega)]
      have HE := Lib.hid he
      have E := Lib.hid e
      clear he e hl hl1 hd
      go_enter Tryz.func112, Tryz.ntmps112
      go_wp2
      go_ret
      rw [HE.out]
      exact ⟨rfl, ⟨AK, cK, AF, cF, lf, D, n, V, R.out.mono up_self, E.out⟩, But.refl _ _ _⟩

set_option maxHeartbeats 4000000 in
set_option maxRecDepth 100000 in
theorem cdWrite_okm {w : World} {G : Nat → Prop} {q m : Nat} {d : Dk.D} {A : Option Addr} {n c : Nat} {b : List UInt8} {B : Nat} {t : TypeId} (h : CDm w G q m d) (hl : d.left ≤ 9223372036854775807) (hcl : d.cache.length ≤ 100000000) (hf : d.s.length ≤ 4096)
    (hL : Lies w B t A (bcells b)) (hBG : bcells b ≠ [] → InF (fun k => ¬ G k ∧ k < w.heap.size) A) (hn : n = b.length) (i : Nat) (hi : Dk.has d (i : Int) = true) (hdd : d.dead = false) (hb : n ≤ 64) (ha : (Dk.act d).1 = 0) :
    Calls Tryz.prog 95 #[.pointer (some ⟨q, 0, none⟩), .int .i64 (i : Int), .slice A n c] w (CdOkM G q m 0 (Dk.put (Dk.act d).2 (i : Int) b) w) := by
  have H := Lib.hid h
  have HDD := Lib.hid hdd
  have HL := Lib.hid hl
  have HI := Lib.hid hi
  have HA := Lib.hid ha
  have LB := Lib.hid hL
  have IB := Lib.hid hBG
  have HN := Lib.hid hn
  have hi1 : i < d.s.length := by have := (Dk.has_iff.1 hi).2; omega
  have hb2 : (n : Int) ≤ 64 := by omega
  clear h hl hi ha hL hBG hn hdd
  go_enter Tryz.func95, Tryz.ntmps95
  go_wp2_with fail
  refine (cdDead_at H.out.cd).mono ?_
  rw [HDD.out]
  rintro e w0 ⟨rfl, rfl⟩
  go_wp2_with fail
  refine (cdHas_c H.out.cd i).mono ?_
  rw [HI.out]
  rintro e w0 ⟨rfl, rfl⟩
  go_wp2_with fail
  refine (cdSpend_m H.out HDD.out HL.out).mono ?_
  rw [HA.out]
  rintro e w1 ⟨rfl, hr1, hb1⟩
  have es := Dk.act_s d
  have ec := Dk.act_cache d
  obtain ⟨d1, hd1⟩ : ∃ d1, d1 = (Dk.act d).2 := ⟨_, rfl⟩
  rw [← hd1] at hr1 es ec ⊢
  have HD1 := Lib.hid hd1
  obtain ⟨AK, cK, AF, cF, lf, D, nn, V, r, e⟩ := hr1
  have R := Lib.hid r
  have E := Lib.hid e
  have HB1 := Lib.hid hb1
  have LB1 := Lib.hid (LB.out.but IB.out hb1)
  obtain ⟨_, c1, c2, _, _, _, _⟩ := r.fields
  have hi2 : i < d1.s.length := by rw [es]; exact hi1
  have hi4 : i ≤ 4096 := by omega
  have cl : d1.cache.length ≤ 100000000 := by rw [ec]; exact hcl
  have nl : nn ≤ 100000000 := Nat.le_trans r.few cl
  have hz1 := hb1.size
  have qlt := lt_of_block r.cell
  have mlt := r.map.lt
  obtain ⟨L, hLL⟩ : ∃ L, L = (Dk.wts d1.cache i).length := ⟨_, rfl⟩
  have hL2 : L ≤ 100000000 := by have := Dk.wts_len d1.cache i; omega
  obtain ⟨N, hN⟩ : ∃ N, N = d1.cache.length := ⟨_, rfl⟩
  rw [← hN] at c2
  have hN2 : N ≤ 100000000 := by omega
  have HLL := Lib.hid hLL
  have HNN := Lib.hid hN
  obtain ⟨Ls, hLs⟩ : ∃ Ls, Ls = Value.int .i64 (N : Int) :: List.replicate 64 (.int .u8 0) := ⟨_, rfl⟩
  have BU : Hid (Tryz.prog.built 127 [(0, .int .i64 (N : Int))] = some Ls.toArray) := Lib.hid (hLs ▸ built_write N)
  have LSZ : Hid ((Tryz.prog.info? 127).map (·.size) = some Ls.toArray.size) := Lib.hid (by rw [hLs]; exact Tryz.sizeCWrite)
  have LS0 : Hid ((Value.int .i64 0 :: List.replicate 64 (Value.int .u8 0)).toArray.size = Ls.toArray.size) := Lib.hid (by rw [hLs]; rfl)
  have LS1 : Hid (Ls.toArray.all (·.oneCell') = true) := Lib.hid (hLs ▸ one_zeros _)
  have LSL : Hid (1 + (bcells b).length ≤ Ls.length) := Lib.hid (by rw [hLs, bcells_len, ← HN.out]; show 1 + n ≤ 65; omega)
  have HLS := Lib.hid hLs
  have HMIN : Hid ((bcells b).length = Nat.min n 64) := Lib.hid (by rw [bcells_len, ← HN.out]; exact (Nat.min_eq_left hb).symm)
  have HB0 := Lib.hid (show Below w1.heap.size w1 (w1.alloc (.cells Ls.toArray 127)) from (Below.refl _ _).alloc (Nat.le_refl _) _)
  have HPOS : Hid (0 < (bcells b).length → ∃ ad, A = some ad ∧ ∀ j v, (bcells b)[j]? = some v → (w1.alloc (.cells Ls.toArray 127)).cell? (ad.add j) = some v) := Lib.hid fun hp => by
    obtain ⟨ad, e, _, hc⟩ := (LB1.out.old (t' := t)).alloc (Nat.le_refl _) (.cells Ls.toArray 127) (fun q => by rw [q] at hp; cases hp)
    exact ⟨ad, e, hc⟩
  clear r e hb1 hcl hLL hN hLs es ec hd1 hf
  go_wp2_with (first | (refine wpList_build_one rfl 127 0 (.tmp 26) rfl _ rfl Ls.toArray BU.out ?_) | (refine wpList_alloc_zero rfl 127 rfl Tryz.zeroCWrite ?_) | (refine wpList_store_new rfl 127 (.tmp 8) (.tmp 27) rfl _ Ls.toArray rfl rfl LSZ.out LS0.out LS1.out ?_) | (refine wpList_copy_splice rfl (.tmp 29) (.tmp 30) 23 23 rfl 5 Tryz.underlying23 Tryz.sizeU8 (some ⟨w1.heap.size, 1, none⟩) A 64 64 n c rfl rfl w1.heap.size 1 Ls 127 (heap_alloc_new w1 _) (bcells b) HMIN.out (fun q => ⟨rfl, HPOS.out q⟩) LSL.out (bcells_one b) w1.heap.size w1 HB0.out (Nat.le_refl _) ?_; intro w3 hg3 hb3))
  have XE : Hid (splice Ls 1 (bcells b) = rcell (N, Dk.sec b)) := Lib.hid (by rw [HLS.out, splice_bytes]; rfl)
  have g3 := hg3.out
  rw [XE.out] at g3
  obtain ⟨X, hX⟩ : ∃ X, X = rcell (N, Dk.sec b) := ⟨_, rfl⟩
  rw [← hX] at g3
  have s64 : (Dk.sec b).length = 64 := Dk.sec_len (by rw [← HN.out]; exact hb)
  have X65 : X.length = 65 := by rw [hX]; exact rcell_len s64
  have X1 : ∀ u ∈ X, u.oneCell' = true := by rw [hX]; exact rcell_one _
  have HX := Lib.hid hX
  have q3 := (hb3.block q qlt).trans R.out.cell
  have m3 := map_keep R.out.map (hb3.block m mlt)
  have z3 : w1.heap.size < w3.heap.size := lt_of_block g3
  have FROM : Hid (∀ u : World, (u.heap[q]? = w3.heap[q]? ∧ u.heap[m]? = w3.heap[m]? ∧ u.heap[w1.heap.size]? = w3.heap[w1.heap.size]?) → u.cell? ⟨q, 1, none⟩ = some (.map (some m)) ∧ (Instr.lookup 79 (.map (some m)) (.int .i64 (i : Int)) false).run Tryz.prog u = .ok (.slice (V i).1 L (V i).2) u ∧ u.rangeAt w1.heap.size 0 X) := Lib.hid fun u ⟨e1, e2, e3⟩ => by
    refine ⟨by simp [World.cell?, e1, q3], ?_, fun j v hv => ?_⟩
    · rw [HLL.out]
      exact map_look (map_keep m3 e2) Tryz.underlying3 Tryz.underlying79 (Tryz.zeroWrites _) (key_wf hi4) (R.out.look i hi2)
    · rw [Nat.zero_add, cell_of_row u w1.heap.size j X.toArray 127 (0, 0) (e3.trans g3)]
      simpa using hv
  have S0 : w3.drew.heap[q]? = w3.heap[q]? ∧ w3.drew.heap[m]? = w3.heap[m]? ∧ w3.drew.heap[w1.heap.size]? = w3.heap[w1.heap.size]? := ⟨rfl, rfl, rfl⟩
  obtain ⟨tw, hw, iw0, iw1, iw2⟩ := info_parts Tryz.infoCWrite
  have RW := R.out.row i hi2
  rw [← HLL.out] at RW
  have RB : ∀ a0, (V i).1 = some a0 → a0.block < w1.heap.size ∧ a0.block ≠ q ∧ a0.block ≠ m := fun a0 e0 => by
    obtain ⟨_, cs, fr, r⟩ := own_row RW a0.block (by rw [e0]; rfl)
    exact ⟨lt_of_block r, blk_ne r R.out.cell (by decide), fun e => map_ne R.out.map r e.symm⟩
  have HR := Lib.hid RW
  have HRB := Lib.hid RB
  have M3 := Lib.hid m3
  have Q3 := Lib.hid q3
  have HB3 := Lib.hid hb3
  have G3 := Lib.hid g3
  clear RW RB m3 q3 hb3 hg3 hX c1 c2 LSL LS0 LSZ LS1 BU HMIN HPOS HB0 HLS
  go_wp2_with fail
  refine Any.begin (S := fun u => u.heap[q]? = w3.heap[q]? ∧ u.heap[m]? = w3.heap[m]? ∧ u.heap[w1.heap.size]? = w3.heap[w1.heap.size]?) (st := 14) (by kernel_rfl) ?_
  refine Any.take (st := 14) (i := 0) (v := ?_) rfl (by kernel_rfl) (by kernel_rfl) (by kernel_rfl) rfl (by kernel_rfl) (fun _ _ _ h => h) (Or.inl ⟨by rfl, ?_⟩) (by assumption) ?_
  rotate_left
  · intro u hu
    have c1 := (FROM.out u hu).1
    have lk := (FROM.out u hu).2.1
    clear hu
    go_simp
    try rfl
  simp only [Act.put, List.setIfInBounds_toArray, List.set_cons_zero, List.set_cons_succ, List.getElem_toArray, List.getElem_cons_zero]
  refine Any.take (st := 14) (i := 1) (v := ?_) rfl (by kernel_rfl) (by kernel_rfl) (by kernel_rfl) rfl (by kernel_rfl) (fun _ _ _ h => h) (Or.inl ⟨by rfl, ?_⟩) (by assumption) ?_
  rotate_left
  · intro u hu
    have c1 := (FROM.out u hu).1
    have lk := (FROM.out u hu).2.1
    clear hu
    go_simp
    try rfl
  simp only [Act.put, List.setIfInBounds_toArray, List.set_cons_zero, List.set_cons_succ, List.getElem_toArray, List.getElem_cons_zero, List.getElem_cons_succ]
  refine Any.take (st := 14) (i := 2) (v := ?_) rfl (by kernel_rfl) (by kernel_rfl) (by kernel_rfl) rfl (by kernel_rfl) (fun _ _ _ h => h) (Or.inl ⟨by rfl, ?_⟩) (by assumption) ?_
  rotate_left
  · intro u hu
    have c1 := (FROM.out u hu).1
    have lk := (FROM.out u hu).2.1
    clear hu
    go_simp
    try rfl
  simp only [Act.put, List.setIfInBounds_toArray, List.set_cons_zero, List.set_cons_succ, List.getElem_toArray, List.getElem_cons_zero, List.getElem_cons_succ]
  refine Any.take (st := 14) (i := 3) (v := ?_) rfl (by kernel_rfl) (by kernel_rfl) (by kernel_rfl) rfl (by kernel_rfl) (fun _ _ _ h => h) (Or.inl ⟨by rfl, ?_⟩) (by assumption) ?_
  rotate_left
  · intro u hu
    have c1 := (FROM.out u hu).1
    have lk := (FROM.out u hu).2.1
    clear hu
    go_simp
    try rfl
  simp only [Act.put, List.setIfInBounds_toArray, List.set_cons_zero, List.set_cons_succ, List.getElem_toArray, List.getElem_cons_zero, List.getElem_cons_succ]
  refine Any.take (st := 14) (i := 4) (v := ?_) rfl (by kernel_rfl) (by kernel_rfl) (by kernel_rfl) rfl (by kernel_rfl) (fun _ _ _ h => h) (Or.inl ⟨by rfl, ?_⟩) (by assumption) ?_
  rotate_left
  · intro u hu
    have c1 := (FROM.out u hu).1
    have lk := (FROM.out u hu).2.1
    clear hu
    go_simp
    try rfl
  simp only [Act.put, List.setIfInBounds_toArray, List.set_cons_zero, List.set_cons_succ, List.getElem_toArray, List.getElem_cons_zero, List.getElem_cons_succ]
  refine Any.take (st := 14) (i := 5) (v := ?_) rfl (by kernel_rfl) (by kernel_rfl) (by kernel_rfl) rfl (by kernel_rfl) (fun _ _ _ h => h) (Or.inl ⟨by rfl, ?_⟩) (by assumption) ?_
  rotate_left
  · intro u hu
    have c1 := (FROM.out u hu).1
    have lk := (FROM.out u hu).2.1
    clear hu
    go_simp
    try rfl
  simp only [Act.put, List.setIfInBounds_toArray, List.set_cons_zero, List.set_cons_succ, List.getElem_toArray, List.getElem_cons_zero, List.getElem_cons_succ]
  refine Any.take (st := 14) (i := 6) (v := ?_) rfl (by kernel_rfl) (by kernel_rfl) (by kernel_rfl) rfl (by kernel_rfl) (fun _ _ _ h => h) (Or.inl ⟨by rfl, ?_⟩) (by assumption) ?_
  rotate_left
  · intro u hu
    have c1 := (FROM.out u hu).1
    have lk := (FROM.out u hu).2.1
    clear hu
    go_simp
    try rfl
  simp only [Act.put, List.setIfInBounds_toArray, List.set_cons_zero, List.set_cons_succ, List.getElem_toArray, List.getElem_cons_zero, List.getElem_cons_succ]
  refine Any.take (st := 14) (i := 7) (v := ?_) rfl (by kernel_rfl) (by kernel_rfl) (by kernel_rfl) rfl (by kernel_rfl) (fun _ _ _ h => h) (Or.inl ⟨by rfl, ?_⟩) (by assumption) ?_
  rotate_left
  · intro u hu
    have c1 := (FROM.out u hu).1
    have lk := (FROM.out u hu).2.1
    clear hu
    go_simp
    try rfl
  simp only [Act.put, List.setIfInBounds_toArray, List.set_cons_zero, List.set_cons_succ, List.getElem_toArray, List.getElem_cons_zero, List.getElem_cons_succ]
  refine Any.take (st := 14) (i := 8) (v := ?_) rfl (by kernel_rfl) (by kernel_rfl) (by kernel_rfl) rfl (by kernel_rfl) (fun _ _ _ h => h) (Or.inl ⟨by rfl, ?_⟩) (by assumption) ?_
  rotate_left
  · intro u hu
    have c1 := (FROM.out u hu).1
    have lk := (FROM.out u hu).2.1
    clear hu
    go_simp
    try rfl
  simp only [Act.put, List.setIfInBounds_toArray, List.set_cons_zero, List.set_cons_succ, List.getElem_toArray, List.getElem_cons_zero, List.getElem_cons_succ]
  refine Any.take (st := 14) (i := 9) (v := ?_) rfl (by kernel_rfl) (by kernel_rfl) (by kernel_rfl) rfl (by kernel_rfl) (fun _ _ _ h => h) (Or.inl ⟨by rfl, ?_⟩) (by assumption) ?_
  rotate_left
  · intro u hu
    have c1 := (FROM.out u hu).1
    have lk := (FROM.out u hu).2.1
    clear hu
    go_simp
    try rfl
  simp only [Act.put, List.setIfInBounds_toArray, List.set_cons_zero, List.set_cons_succ, List.getElem_toArray, List.getElem_cons_zero, List.getElem_cons_succ]
  refine Any.take (st := 14) (i := 10) (v := ?_) rfl (by kernel_rfl) (by kernel_rfl) (by kernel_rfl) rfl (by kernel_rfl) (fun _ _ _ h => h) (Or.inl ⟨by rfl, ?_⟩) (by assumption) ?_
  rotate_left
  · intro u hu
    have c1 := (FROM.out u hu).1
    have lk := (FROM.out u hu).2.1
    clear hu
    go_simp
    try rfl
  simp only [Act.put, List.setIfInBounds_toArray, List.set_cons_zero, List.set_cons_succ, List.getElem_toArray, List.getElem_cons_zero, List.getElem_cons_succ]
  refine Any.take (st := 14) (i := 11) (v := .agg X.toArray) rfl (by kernel_rfl) (by kernel_rfl) (by kernel_rfl) rfl (by kernel_rfl) (fun _ _ _ h => h) (yieldsIf_load_mid (by rfl) 127 (.tmp 8) rfl w1.heap.size 0 rfl X _ (fun u hu => (FROM.out u hu).2.2) Tryz.underlying127 rfl (by rw [X65]; exact Tryz.sizeCWrite)) (by assumption) ?_
  try simp only [Act.put, List.setIfInBounds_toArray, List.set_cons_zero, List.set_cons_succ, List.getElem_toArray, List.getElem_cons_zero, List.getElem_cons_succ]
  refine Any.one (i := 12) (by kernel_rfl) rfl (fun K hK => ?_)
  refine step_buildSlice rfl 123 (.tmp 43) rfl (.agg X.toArray) rfl (run_buildSlice_one _ 123 127 X.toArray tw _ Tryz.underlying123 hw iw0 (by rw [iw1]; exact X65.symm) (by show 0 < X.length; omega) (by show X.length ≤ _; omega)) ?_
  have b4 : Below w3.heap.size w3 (w3.drew.alloc (.cells X.toArray 127)) := (Below.refl _ _).drew.alloc (Nat.le_refl _) _
  have S4 : (w3.drew.alloc (.cells X.toArray 127)).heap[q]? = w3.heap[q]? ∧ (w3.drew.alloc (.cells X.toArray 127)).heap[m]? = w3.heap[m]? ∧ (w3.drew.alloc (.cells X.toArray 127)).heap[w1.heap.size]? = w3.heap[w1.heap.size]? := ⟨b4.block q (by omega), b4.block m (by omega), b4.block _ z3⟩
  refine hK _ _ (fun _ => S4) ?_
  clear hK K
  try simp only [Act.put, List.setIfInBounds_toArray, List.set_cons_zero, List.set_cons_succ, List.getElem_toArray, List.getElem_cons_zero, List.getElem_cons_succ]
  refine Any.one (i := 13) (by kernel_rfl) rfl (fun K hK => ?_)
  have ow4 : (w3.drew.alloc (.cells X.toArray 127)).ownsRow 0 127 65 (.slice (V i).1 L (V i).2) L (rcells (Dk.wts d1.cache i)) := own_below (own_keep HR.out (fun k hk => HB3.out.block k (HR.out.lt k hk).2)) b4
  refine step_own rfl _ _ 123 rfl 0 127 tw _ 65 72 Tryz.underlying123 hw iw0 iw1 iw2 rfl (by decide) _ L _ rfl ow4 0 (some ⟨w3.heap.size, 0, none⟩) 1 1 X 127 rfl (by rw [X65]) (by have := Lies.of_blk (B := 0) (heap_alloc_new w3.drew (.cells X.toArray 127)); rw [List.toList_toArray] at this; exact this) X1 (by unfold maxLen; omega) (by omega) (Nat.zero_le _) ?_
  intro v5 w5 hown5 hgrow5 hblk5
  obtain ⟨A5, k5, rfl⟩ := own_slice hown5
  have keep5 : ∀ k, k < w3.heap.size → (∀ a0, (V i).1 = some a0 → k ≠ a0.block) → w5.heap[k]? = w3.heap[k]? := fun k hk hne => (hgrow5.block k (by simp; omega) (fun e => by
    cases hv : (V i).1 with
    | none => rw [hv] at e; cases e
    | some a0 => rw [hv] at e; injection e with e; exact hne a0 hv e)).trans (b4.block k hk)
  have S5 : w5.heap[q]? = w3.heap[q]? ∧ w5.heap[m]? = w3.heap[m]? ∧ w5.heap[w1.heap.size]? = w3.heap[w1.heap.size]? := ⟨keep5 q (by omega) (fun a0 e0 e => (HRB.out a0 e0).2.1 e.symm), keep5 m (by omega) (fun a0 e0 e => (HRB.out a0 e0).2.2 e.symm), keep5 _ z3 (fun a0 e0 e => by have := (HRB.out a0 e0).1; omega)⟩
  refine hK _ _ (fun _ => S5) ?_
  clear hK K
  try simp only [Act.put, List.setIfInBounds_toArray, List.set_cons_zero, List.set_cons_succ, List.getElem_toArray, List.getElem_cons_zero, List.getElem_cons_succ]
  refine Any.one (i := 14) (by kernel_rfl) rfl (fun K hK => ?_)
  obtain ⟨w6, hrun6, hmap6, hgr6⟩ := map_put (t := 79) (map_keep M3.out S5.2.1) Tryz.underlying3 Tryz.underlying79 (by unfold maxLen; omega) (key_wf hi4) (A5, L + 1, k5)
  refine step_mapUpdate rfl _ _ _ 79 rfl rfl rfl rfl hrun6 ?_
  refine hK _ _ (fun e => absurd rfl e) ?_
  clear hK K
  try simp only [Act.put]
  refine Any.done (by kernel_rfl) ?_
  have keep6 : ∀ k, k < w3.heap.size → k ≠ m → (∀ a0, (V i).1 = some a0 → k ≠ a0.block) → w6.heap[k]? = w3.heap[k]? := fun k hk hm hne => (hgr6.block k (by have := hgrow5.size; simp at this; omega) (fun e => hm (by injection e))).trans (keep5 k hk hne)
  have q6 := (keep6 q (by omega) (Ne.symm (map_ne R.out.map R.out.cell)) (fun a0 e0 e => (HRB.out a0 e0).2.1 e.symm)).trans Q3.out
  have cN : w6.cell? ⟨q, 2, none⟩ = some (.int .i64 (N : Int)) := by rw [HNN.out]; simp [World.cell?, q6]
  have fN := blk_free q6 2
  have z5 := hgrow5.size
  rw [World.size_alloc] at z5
  have z35 : w3.heap.size ≤ w5.heap.size := Nat.le_of_succ_le z5
  have own6 : w6.ownsRow 0 127 65 (.slice A5 (L + 1) k5) (L + 1) (rcells (Dk.wts d1.cache i) ++ X) := own_keep hown5 (fun k hk => hgr6.block k (hown5.lt k hk).2 (fun e => by
    injection e with e
    obtain ⟨_, cs, fr, rr⟩ := own_row hown5 k hk
    exact map_ne (map_keep M3.out S5.2.1) rr e.symm))
  have OW := Lib.hid own6
  have blk : ∀ a, A5 = some a → (∃ a0, (V i).1 = some a0 ∧ a.block = a0.block) ∨ w1.heap.size ≤ a.block := fun a e => by
    subst e
    rcases hblk5 with h5 | h5
    · cases hv : (V i).1 with
      | none => have h5' : some a.block = (Value.slice (V i).1 L (V i).2).ownBlock := h5; rw [hv] at h5'; cases h5'
      | some a0 => have h5' : some a.block = (Value.slice (V i).1 L (V i).2).ownBlock := h5; rw [hv] at h5'; injection h5' with h5'; exact .inl ⟨a0, rfl, h5'⟩
    · have h5' : some a.block = some (w3.drew.alloc (.cells X.toArray 127)).heap.size := h5
      injection h5' with h5'
      rw [h5']
      exact .inr (by simp; omega)
  have BLK := Lib.hid blk
  have K6 := Lib.hid keep6
  have Q6 := Lib.hid q6
  have MP := Lib.hid hmap6
  have e6 : w6.os = w1.os ∧ w6.tape = w1.tape ∧ w6.output = w1.output ∧ w1.heap.size ≤ w6.heap.size := ⟨hgr6.os.trans (hgrow5.os.trans (b4.os.trans HB3.out.os)), hgr6.tape.trans (hgrow5.tape.trans (b4.tape.trans HB3.out.tape)), hgr6.output.trans (hgrow5.output.trans (b4.output.trans HB3.out.output)), by have := hgr6.size; omega⟩
  have E6 := Lib.hid e6
  have n1 : (N : Int) ≤ 100000000 := by omega
  clear hrun6 hmap6 hgr6 hown5 hgrow5 hblk5 keep5 keep6 q6 own6 blk e6 S0 S4 S5 ow4 b4 X1 X65 s64 iw0 iw1 iw2 hw g3
  go_wp2
  go_ret
  rw [← HD1.out]
  show CdOkM G q m 0 { d1 with cache := d1.cache ++ [(i, Dk.sec b)] } w _ _
  refine ⟨rfl, ⟨AK, cK, AF, cF, lf, _, nn + 1, fun j => if j = i then (A5, k5) else V j, (CD6.put R.out hi2 HLL.out ?_ ?_ BLK.out ?_ ?_ (fun k g => g) (fun k g => Or.inr (by omega))), E.out⟩, ?_⟩
  · rw [blk_set Q6.out, ← HNN.out]; rfl
  · rw [← HNN.out, ← HX.out]
    exact own_off OW.out Q6.out (by decide) set_off
  · exact map_keep MP.out (set_off m (map_ne MP.out Q6.out))
  · intro k hk h1 h2 h3
    exact (set_off k h1).trans ((K6.out k (by omega) h2 h3).trans (HB3.out.block k hk))
  · refine (HB1.out.trans ?_ : But G w.heap.size w _)
    refine ⟨E6.out.1, E6.out.2.1, E6.out.2.2.1, by rw [World.size_setCell]; exact E6.out.2.2.2, fun k hk hg => ?_⟩
    have up : ∀ {x : Nat}, Up G w.heap.size x → k ≠ x := fun hx e => by
      subst e
      exact hx.elim hg (fun h => by omega)
    exact (set_off k (up R.out.fp)).trans ((K6.out k (by omega) (up R.out.mF) (fun a0 e0 => up (R.out.rowF i hi2 a0 e0))).trans (HB3.out.block k (by omega)))

set_option maxHeartbeats 1000000 in
theorem cdWrite_m {w : World} {G : Nat → Prop} {q m : Nat} {d : Dk.D} {A : Option Addr} {n c : Nat} {b : List UInt8} {B : Nat} {t : TypeId} (h : CDm w G q m d) (hd : d.ok) (hl : d.left ≤ 9223372036854775807) (hcl : d.cache.length ≤ 100000000)
    (hL : Lies w B t A (bcells b)) (hBG : bcells b ≠ [] → InF (fun k => ¬ G k ∧ k < w.heap.size) A) (hn : n = b.length) (hs : n ≤ 1000000000) (_hc : n ≤ c) (i : Int) :
    Calls Tryz.prog 95 #[.pointer (some ⟨q, 0, none⟩), .int .i64 i, .slice A n c] w (CdOkM G q m (Dk.write d i b).1 (Dk.write d i b).2 w) := by
  have H := Lib.hid h
  have same : ∀ er, CdOkM G q m er d w (.returned (.int .i64 er)) w := fun er => ⟨rfl, h.mono up_self, But.refl _ _ _⟩
  have SM := Lib.hid same
  clear same
  cases hdd : d.dead
  · have HDD := Lib.hid hdd
    cases hh : Dk.has d i
    · have he : Dk.write d i b = (1, d) := by unfold Dk.write; rw [if_neg (by rw [hdd]; simp), if_pos hh]
      rw [he]
      have HH := Lib.hid hh
      clear he hh hdd hcl hl hd hL hBG hn h hs
      go_enter Tryz.func95, Tryz.ntmps95
      go_wp2_with fail
      refine (cdDead_at H.out.cd).mono ?_
      rw [HDD.out]
      rintro e w0 ⟨rfl, rfl⟩
      go_wp2_with fail
      refine (cdHas_c H.out.cd i).mono ?_
      rw [HH.out]
      rintro e w1 ⟨rfl, rfl⟩
      go_wp2
      go_ret
      exact SM.out 1
    · by_cases hb : 64 < b.length
      · have he : Dk.write d i b = (2, d) := by unfold Dk.write; rw [if_neg (by rw [hdd]; simp), if_neg (by rw [hh]; simp), if_pos hb]
        rw [he]
        have HH := Lib.hid hh
        have hb2 : (64 : Int) < (n : Int) := by omega
        clear he hh hdd hcl hl hd hL hBG hn h hb hs
        go_enter Tryz.func95, Tryz.ntmps95
        go_wp2_with fail
        refine (cdDead_at H.out.cd).mono ?_
        rw [HDD.out]
        rintro e w0 ⟨rfl, rfl⟩
        go_wp2_with fail
        refine (cdHas_c H.out.cd i).mono ?_
        rw [HH.out]
        rintro e w1 ⟨rfl, rfl⟩
        go_wp2
        go_ret
        exact SM.out 2
      · obtain ⟨k, rfl⟩ := Int.eq_ofNat_of_zero_le (Dk.has_iff.1 hh).1
        by_cases ha : (Dk.act d).1 = 0
        · have he : Dk.write d (k : Int) b = (0, Dk.put (Dk.act d).2 (k : Int) b) := by unfold Dk.write; rw [if_neg (by rw [hdd]; simp), if_neg (by rw [hh]; simp), if_neg hb, if_pos ha]
          rw [he]
          exact cdWrite_okm h hl hcl hd.few hL hBG hn k hh hdd (by omega) ha
        · have he : Dk.write d (k : Int) b = (50, (Dk.act d).2) := by
            unfold Dk.write; rw [if_neg (by rw [hdd]; simp), if_neg (by rw [hh]; simp), if_neg hb, if_neg ha]
            exact Prod.ext (Dk.act_no ha).1 rfl
          rw [he]
          have HA := Lib.hid (Dk.act_no ha).1
          have HH := Lib.hid hh
          have HL := Lib.hid hl
          have hb2 : (n : Int) ≤ 64 := by omega
          clear he hh hdd hcl hl hd hL hBG hn h hb ha hs
          go_enter Tryz.func95, Tryz.ntmps95
          go_wp2_with fail
          refine (cdDead_at H.out.cd).mono ?_
          rw [HDD.out]
          rintro e w0 ⟨rfl, rfl⟩
          go_wp2_with fail
          refine (cdHas_c H.out.cd k).mono ?_
          rw [HH.out]
          rintro e w1 ⟨rfl, rfl⟩
          go_wp2_with fail
          refine (cdSpend_m H.out HDD.out HL.out).mono ?_
          rw [HA.out]
          rintro e w1 ⟨rfl, hr1, hb1⟩
          go_wp2
          go_ret
          exact ⟨rfl, hr1, hb1⟩
  · have he : Dk.write d i b = (50, d) := by unfold Dk.write; rw [if_pos hdd]
    rw [he]
    have HDD := Lib.hid hdd
    clear he hdd hcl hl hd hL hBG hn h hs
    go_enter Tryz.func95, Tryz.ntmps95
    go_wp2_with fail
    refine (cdDead_at H.out.cd).mono ?_
    rw [HDD.out]
    rintro e w0 ⟨rfl, rfl⟩
    go_wp2
    go_ret
    exact SM.out 50
end Go.Proofs.YtpnfpeeijghamaaGreat
