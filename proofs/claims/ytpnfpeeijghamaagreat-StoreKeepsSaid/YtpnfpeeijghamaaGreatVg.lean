/- The code's own Wal: change, where records are written. -/
import Derived.Test.YtpnfpeeijghamaaGreatVb
import Derived.Deep.RegionHeld3
import Derived.Deep.CutRange
import Derived.StillTailTactics
namespace Go.Proofs.YtpnfpeeijghamaaGreat
open Go.RowKit Go.Shelf
set_option maxRecDepth 100000

attribute [local go_sem] Oper.semAt_some

/-- The end of a body with loops over functions, none of which panics. -/
def postM (P : Program) (fn : Func) (R : Ending → World → Prop) : Exit → Act → World → Prop
  | .normal, a, w | .ret, a, w => LeavesInM Fence.wide 9 P fn a.tmps R a.defers .returning w
  | _, _, _ => False
theorem calls_of_marks {P : Program} {f : FuncId} {fn : Func} {c : Code} {args : Array Value} {w : World} {R : Ending → World → Prop} (hf : P.funcs[f]? = some fn) (hb : fn.body = some c)
    (h : c.wp P (postM P fn R) { tmps := args ++ Array.replicate (fn.ntmps - args.size) undef, defers := [] } w) : Calls P f args w R :=
  (callsIn_wide (n := 9)).1 (callsIn_of_wp_marks hf hb trivial (wpIn_wide.2 (wp_mono h fun e _ _ hq => by
    cases e with
    | normal => exact hq
    | ret => exact hq
    | panic ch => exact hq.elim
    | exit id => exact hq.elim
    | goto l => exact hq.elim
    | outgrown => exact hq.elim)))

/-- Between two pieces of a record: O's blocks but for the error's and the tail's are as they were. -/
def WI (w w3 : World) (G O : Nat → Prop) (q mm b1 bT P r L m : Nat) (D : Dk.D) (fb : List UInt8) (pre : List Nat) (W : World) : Prop :=
  ∃ (G2 : Nat → Prop) (D2 : Dk.D), PV w W G G2 O q mm D2 ∧ (∀ k, O k → k ≠ b1 → k ≠ bT → W.heap[k]? = w3.heap[k]?) ∧ W.heap[b1]? = some (.cells #[.int .i64 0] 26 (0, 0)) ∧
    W.heap[bT]? = some (.cells #[.int .u64 ((P + pre.length : Nat) : Int)] 62 (0, 0)) ∧ Wl.wrs r P (pre.map (Wl.pc fb)) D = (0, D2) ∧ PD D2 L (m + pre.length)
/-- A piece couldn't be written. -/
def WX (w w3 : World) (G O : Nat → Prop) (q mm b1 bT P r L m : Nat) (D : Dk.D) (fb : List UInt8) (pre : List Nat) (W : World) : Prop :=
  ∃ (G2 : Nat → Prop) (D2 : Dk.D) (e : Int), e ≠ 0 ∧ PV w W G G2 O q mm D2 ∧ (∀ k, O k → k ≠ b1 → k ≠ bT → W.heap[k]? = w3.heap[k]?) ∧ W.heap[b1]? = some (.cells #[.int .i64 e] 26 (0, 0)) ∧
    Wl.wrs r P (pre.map (Wl.pc fb)) D = (e, D2) ∧ PD D2 L (m + pre.length)
theorem grown_at {W W' : World} {row : Option Nat} {B k : Nat} (hg : W.grownBy W' row) (hr : ∀ r, row = some r → B ≤ r ∧ ∃ o : Obj, W.heap[r]? = some o ∧ o.isCells = false) (h1 : k < W.heap.size) (h2 : k < B) : W'.heap[k]? = W.heap[k]? :=
  hg.block k h1 (fun e => by have := (hr k e.symm).1; omega)
section
variable {w w3 : World} {G O : Nat → Prop} {q mm b1 bT P r L m : Nat} {D : Dk.D} {fb : List UInt8}
theorem WI.own (hm : mm < w3.heap.size) (hw : w.heap.size ≤ w3.heap.size) (hO : ∀ k, O k → k < w3.heap.size) (o1 : O b1) (oT : O bT) : OwnFrom w3.heap.size (WI w w3 G O q mm b1 bT P r L m D fb) := fun pre W W' row hs hg hr => by
  obtain ⟨G2, D2, hpv, h0, h1, h2, h3, h4⟩ := hs
  have at_ : ∀ k, O k → W'.heap[k]? = W.heap[k]? := fun k hk => grown_at hg hr (hpv.oo k hk).2.1 (hO k hk)
  exact ⟨G2, D2, hpv.grownFrom hg hm hw hr, fun k hk n1 n2 => (at_ k hk).trans (h0 k hk n1 n2), (at_ b1 o1).trans h1, (at_ bT oT).trans h2, h3, h4⟩
theorem WX.own (hm : mm < w3.heap.size) (hw : w.heap.size ≤ w3.heap.size) (hO : ∀ k, O k → k < w3.heap.size) (o1 : O b1) : OwnFrom w3.heap.size (WX w w3 G O q mm b1 bT P r L m D fb) := fun pre W W' row hs hg hr => by
  obtain ⟨G2, D2, e, he, hpv, h0, h1, h3, h4⟩ := hs
  have at_ : ∀ k, O k → W'.heap[k]? = W.heap[k]? := fun k hk => grown_at hg hr (hpv.oo k hk).2.1 (hO k hk)
  exact ⟨G2, D2, e, he, hpv.grownFrom hg hm hw hr, fun k hk n1 n2 => (at_ k hk).trans (h0 k hk n1 n2), (at_ b1 o1).trans h1, h3, h4⟩
end

section
variable {w w' : World} {E G : Nat → Prop} {pw q : Nat} {s : VS} {d : Dk.D}
theorem CWD.off (x : CWD w E G pw q s d) (h : ∀ k, E k ∨ G k → w'.heap[k]? = w.heap[k]?) (hz : w.heap.size ≤ w'.heap.size) : CWD w' E G pw q s d := by
  obtain ⟨AN, cN, y⟩ := x.cw
  exact ⟨x.cd.keep (fun k hk _ => h k (.inr hk)), ⟨AN, cN, y.keep (fun k hk => h k (.inl hk))⟩, fun k hk => Nat.lt_of_lt_of_le (x.eo k hk) hz, fun k hk => Nat.lt_of_lt_of_le (x.go k hk) hz, x.ap⟩
/-- The wal is at an end. -/
theorem CWD.end_ (x : CWD w E G pw q s d) (ho : s.over = false) : CWD (w.setCell ⟨pw, 0, none⟩ (.pointer none)) E G pw q { s with over := true } d := by
  obtain ⟨AN, cN, y⟩ := x.cw
  rw [ho] at y
  have sz : (w.setCell ⟨pw, 0, none⟩ (.pointer none)).heap.size = w.heap.size := by simp
  have so : ∀ k, k ≠ pw → (w.setCell ⟨pw, 0, none⟩ (.pointer none)).heap[k]? = w.heap[k]? := fun k hk => Below.heap_setCell _ _ _ _ hk
  refine ⟨x.cd.keep (fun k hk _ => so k (fun e => x.ap pw y.fp (e ▸ hk))), ⟨AN, cN, ⟨y.fp, ?_, ?_, y.nF, y.room, y.small, y.fits, y.r1, y.r2, y.g64, y.t64⟩⟩, fun k hk => by rw [sz]; exact x.eo k hk, fun k hk => by rw [sz]; exact x.go k hk, x.ap⟩
  · rw [blk_set y.cell]; rfl
  · exact y.n.keep fun b hb => so b (hb.elim (fun z => absurd z (Nat.not_lt_zero _)) (fun ⟨_, _, z⟩ => blk_ne z y.cell (by decide)))
theorem VOk.close {y : Int × VS × Dk.D} {E4 G4 : Nat → Prop} {wf : World} {Ds : List Nat} (x : CWD wf E4 G4 pw q y.2.1 y.2.2) (e4 : ∀ k, k < w.heap.size → E4 k → E k) (g4 : ∀ k, k < w.heap.size → G4 k → G k) (b : But (fun k => E k ∨ G k) w.heap.size w wf)
    (hD : ∀ D ∈ Ds, w.heap.size ≤ D ∧ ¬ E4 D ∧ ¬ G4 D) : VOk E G pw q y w (.returned (.int .i64 y.1)) (shut wf Ds) := by
  obtain ⟨h1, h2, h3, h4⟩ := shut_same (w := wf) (Ds := Ds)
  have off : ∀ k, (E4 k ∨ G4 k ∨ k < w.heap.size) → (shut wf Ds).heap[k]? = wf.heap[k]? := fun k hk => shut_off fun hm => by
    obtain ⟨z1, z2, z3⟩ := hD k hm
    rcases hk with z | z | z
    · exact z2 z
    · exact z3 z
    · omega
  exact ⟨rfl, E4, G4, x.off (fun k hk => off k (hk.elim .inl (fun z => .inr (.inl z)))) (by omega), e4, g4, ⟨h2.trans b.os, h3.trans b.tape, h4.trans b.output, by rw [h1]; exact b.size, fun k hk hf => (off k (.inr (.inr hk))).trans (b.block k hk hf)⟩⟩
end

section
variable {w : World} {E G : Nat → Prop} {pw q : Nat} {s : VS} {d : Dk.D}

set_option maxHeartbeats 16000000 in
theorem vChange_go (x : CWD w E G pw q s d) (ho : s.over = false) (hd : d.ok) (hl : d.left ≤ 9223372036854775807) (hcl : d.cache.length ≤ 1000000) (ug : U64 (s.g + 1)) {gone : Nat} (hg : gone ≤ s.l.length) {A : Option Addr} {n c : Nat} {ms : List MTx} (ht : Txs w G A ms) (hn : n = ms.length) (hs : n ≤ 1000)
    (hr : Wl.roomE (Wl.ring d - Wl.needs s.l) (txs ms) = 0) (ut : U64 (s.h + Wl.needs s.l + Wl.needs (txs ms))) :
    Calls Tryz.prog 74 #[.pointer (some ⟨pw, 0, none⟩), .int .i64 (gone : Int), .slice A n c] w (VOk E G pw q (vchg s d gone (txs ms)) w) := by
  have HX := Lib.hid x
  have hE : Hid (∀ k, E k → k < w.heap.size ∧ ¬ G k) := Lib.hid fun k e => ⟨x.eo k e, x.ap k e⟩
  have ba : Below w.heap.size w (w.alloc (.cells #[.pointer (some ⟨pw, 0, none⟩)] 82)) := (Below.refl _ _).alloc (Nat.le_refl _) _
  have HB := Lib.hid ba
  obtain ⟨AN, cN, y⟩ := (x.keep ba).cw
  rw [ho] at y
  have HY := Lib.hid y
  have HT := Lib.hid ht
  have HN := Lib.hid hn
  have HR := Lib.hid hr
  have HD := Lib.hid hd
  have HL := Lib.hid hl
  have HC := Lib.hid hcl
  have UG := Lib.hid ug
  have UT := Lib.hid ut
  have HO := Lib.hid ho
  have HGo := Lib.hid hg
  have rc := Lib.hid (vRoom_c (c := c) y (ht.later ba) hn hs)
  obtain ⟨N, hNn⟩ : ∃ N, N = Wl.needs (txs ms) := ⟨_, rfl⟩
  have er0 := Wl.roomE_zero hr
  have nN : N ≤ 4096 := by rw [hNn]; have := er0.2; have := y.r2; omega
  have RK : Wl.roomK (Wl.ring d - Wl.needs s.l) (txs ms) = (N : Int) := by unfold Wl.roomK; rw [if_pos hr, hNn]
  rw [hr, RK] at rc
  have SM := Lib.hid er0.1
  have FT := Lib.hid er0.2
  have lc := Lib.hid (fun (u : World) (hu : Below w.heap.size w u) => by
    obtain ⟨AN2, cN2, y2⟩ := (x.keep hu).cw
    exact vLower_c y2 (n := N) (by rw [hNn]; exact ut))
  have wN : IntKind.u64.wrap (N : Int) = (N : Int) := by rw [IntKind.wrap_u64]; omega
  have NN := Lib.hid hNn
  clear x ho y ba ht hn hr hd hl hcl ug ut hg er0 RK hNn
  refine calls_of_marks Tryz.func74 rfl ?_
  simp only [Tryz.ntmps74, List.size_toArray, List.length_cons, List.length_nil, Nat.reduceAdd, Nat.reduceSub, Array.replicate_succ, Array.replicate_zero, List.push_toArray, List.append_toArray, List.nil_append, List.cons_append]
  go_wp2
  go_step3
  go_wp2_with fail
  refine (vRuns_c HY.out).mono ?_
  rintro e w1 ⟨rfl, rfl⟩
  go_wp2_with fail
  refine rc.out.mono ?_
  rintro e w1 ⟨rfl, j, rfl⟩
  go_wp2_with fail
  refine (lc.out _ ((below_drewN HB.out j).alloc (by simp) _)).mono ?_
  rintro e w1 ⟨rfl, rfl⟩
  obtain ⟨wA, hwA⟩ : ∃ wA, wA = ((w.alloc (.cells #[.pointer (some ⟨pw, 0, none⟩)] 82)).drewN j).alloc (.cells #[.int .i64 0] 26) := ⟨_, rfl⟩
  have bA : Below w.heap.size w wA := by rw [hwA]; exact (below_drewN HB.out j).alloc (by simp) _
  have hA0 : wA.heap[w.heap.size]? = some (.cells #[.pointer (some ⟨pw, 0, none⟩)] 82 (0, 0)) := by rw [hwA]; exact blk_alloc (heap_alloc_new w _) _
  have hA1 : wA.heap[w.heap.size + 1]? = some (.cells #[.int .i64 0] 26 (0, 0)) := by
    have z := heap_alloc_new ((w.alloc (.cells #[.pointer (some ⟨pw, 0, none⟩)] 82)).drewN j) (.cells #[.int .i64 0] 26)
    rw [hwA]
    simpa using z
  have zA : wA.heap.size = w.heap.size + 2 := by rw [hwA]; simp
  rw [← hwA]
  obtain ⟨AN2, cN2, y2⟩ := (HX.out.keep bA).cw
  obtain ⟨_, _, _, c3, _, c5, _⟩ := y2.fields
  have HA0 := Lib.hid hA0
  have HA1 := Lib.hid hA1
  have BA := Lib.hid bA
  have Y2 := Lib.hid y2
  obtain ⟨T, hT⟩ : ∃ T, T = s.h + Wl.needs s.l := ⟨_, rfl⟩
  obtain ⟨L, hLl⟩ : ∃ L, L = s.l.length := ⟨_, rfl⟩
  rw [← hT] at c3
  rw [← hLl] at c5
  have hgl : (gone : Int) ≤ (L : Int) := by have := HGo.out; omega
  have hgc : (gone : Int) ≤ (cN2 : Int) := by have := HGo.out; have := y2.room; omega
  have c0 : wA.cell? ⟨w.heap.size, 0, none⟩ = some (.pointer (some ⟨pw, 0, none⟩)) := by simp [World.cell?, hA0]
  have HTT := Lib.hid hT
  have HLl := Lib.hid hLl
  obtain ⟨ns, hns⟩ : ∃ ns, ns = (s.l.drop gone).map Wl.need := ⟨_, rfl⟩
  have HNS := Lib.hid hns
  have pl : pw < wA.heap.size := (HX.out.keep bA).eo pw y2.fp
  obtain ⟨AC, hAC⟩ : ∃ AC, (if cN2 = gone then AN2 else AN2.map (·.add gone)) = AC := ⟨_, rfl⟩
  have CL : Hid (∀ u, Below wA.heap.size wA u → Calls Tryz.prog 92 #[.slice AC (L - gone) (cN2 - gone)] u (IntsOk u.heap.size ns u)) := Lib.hid fun u hu => by
    have z := y2.n.cut gone cN2 (by rw [ics_len, List.length_map]; exact y2.room)
    rw [ics_drop, ← List.map_drop, ← hns, hAC] at z
    exact vClone_c (z.below (Nat.zero_le _) hu) (by rw [hns, List.length_map, List.length_drop, hLl]) (by have := y2.few; omega)
  have ZA := Lib.hid zA
  clear zA hwA hA0 hA1 bA y2 hT hLl hns lc rc HY
  go_upto_region 7 with fail
  go_cut [9, 10] from 32 to 42 (fun u9 u10 wx => ∃ (bT nO cO : Nat) (AO : Option Addr), u9 = .pointer (some ⟨bT, 0, none⟩) ∧ u10 = .slice AO nO cO ∧ nO = ns.length ∧ Below wA.heap.size wA wx ∧ wA.heap.size ≤ bT ∧ wx.heap[bT]? = some (.cells #[.int .u64 (T : Int)] 62 (0, 0)) ∧ wx.ownsRow wA.heap.size 3 1 (.slice AO nO cO) nO (ics ns))
  case first =>
    have SF : Hid (∀ u, Below wA.heap.size wA u → u.cell? ⟨w.heap.size, 0, none⟩ = some (.pointer (some ⟨pw, 0, none⟩)) ∧ u.cell? ⟨pw, 3, none⟩ = some (.int .u64 (T : Int)) ∧ u.cell? ⟨pw, 5, none⟩ = some (.slice AN2 L cN2)) := Lib.hid fun u hu => ⟨(hu.cell (p := ⟨w.heap.size, 0, none⟩) (by show w.heap.size < wA.heap.size; have := ZA.out; omega)).trans c0, (hu.cell (p := ⟨pw, 3, none⟩) pl).trans c3, (hu.cell (p := ⟨pw, 5, none⟩) pl).trans c5⟩
    go_region_held (fun u => u.cell? ⟨w.heap.size, 0, none⟩ = some (.pointer (some ⟨pw, 0, none⟩)) ∧ u.cell? ⟨pw, 3, none⟩ = some (.int .u64 (T : Int)) ∧ u.cell? ⟨pw, 5, none⟩ = some (.slice AN2 L cN2)) (first | exact ⟨c0, c3, c5⟩ | exact SF.out _ B5 | exact SF.out _ (B5.alloc B5.size _) | exact SF.out _ (B5.setCell (p := ⟨wA.heap.size, 0, none⟩) (Nat.le_refl _) _) | exact SF.out _ (((Below.refl _ _).alloc (Nat.le_refl _) _).drew)) (first | (go_at_call 92; refine (CL.out _ (Below.refl _ _).drew).mono ?_; rintro e w5 ⟨A5, n5, c5x, rfl, hn5, ho5, hb5⟩; have B5 := (Below.refl _ wA).drew.trans hb5) | (go_at_call 92; refine (CL.out _ (((Below.refl _ _).alloc (Nat.le_refl _) _).drew)).mono ?_; rintro e w5 ⟨A5, n5, c5x, rfl, hn5, ho5, hb5⟩; have B5 := (((Below.refl _ wA).alloc (Nat.le_refl _) _).drew).trans (hb5.mono (by simp)); have cz := (hb5.block wA.heap.size (by simp)).trans (heap_alloc_new wA _); have cz2 := blk_free cz 0; have CZ := Lib.hid cz; try (have cz1 : w5.cell? ⟨wA.heap.size, 0, none⟩ = some (.int .u64 0) := by simp [World.cell?, cz]); clear cz))
    · subst hn5
      go_wp2
      go_meet
      case rel => exact ⟨_, _, c5x, A5, rfl, rfl, rfl, B5.alloc B5.size _, B5.size, heap_alloc_new w5 _, own_below ho5 ((Below.refl _ _).alloc (Nat.le_refl _) _)⟩
    · subst hn5
      go_wp2
      go_meet
      case rel => exact ⟨_, _, c5x, A5, rfl, rfl, rfl, B5.setCell (p := ⟨wA.heap.size, 0, none⟩) (Nat.le_refl _) _, Nat.le_refl _, (blk_set CZ.out 0 _).trans rfl, own_less (own_far (p := ⟨wA.heap.size, 0, none⟩) ho5 CZ.out (by decide) _) (by simp)⟩
  case rest =>
    obtain ⟨bT, nO, cO, AO, rfl, rfl, hnO, hbx, hbT, hcT, hoO⟩ := hcut
    obtain ⟨mm, hmm⟩ := HX.out.cd.m
    have HM := Lib.hid hmm.lt.1
    have bx := BA.out.trans (hbx.mono (by have := ZA.out; omega))
    have PV0 := Lib.hid (PV.start hmm bx HX.out.go)
    have za := ZA.out
    have zx := hbx.size
    have B0 := Lib.hid ((hbx.block w.heap.size (by omega)).trans HA0.out)
    have B1 := Lib.hid ((hbx.block (w.heap.size + 1) (by omega)).trans HA1.out)
    have BT := Lib.hid hcT
    have BTn : Hid (bT ≠ w.heap.size ∧ bT ≠ w.heap.size + 1) := Lib.hid ⟨by omega, by omega⟩
    have OW := Lib.hid hoO
    have NO := Lib.hid hnO
    have BTl := Lib.hid hbT
    obtain ⟨r, hr⟩ : ∃ r, r = Wl.ring d := ⟨_, rfl⟩
    obtain ⟨Z, hZ⟩ : ∃ Z, Wl.wrs r T (Wl.chunks (txs ms)) d = Z := ⟨_, rfl⟩
    have HRr := Lib.hid hr
    have HZ := Lib.hid hZ
    clear hmm bx za zx hcT hoO hnO hbT hbx hr hZ c0 c3 c5 hAC HA0 HA1 CL pl
    go_wp2
    go_step3
    go_wp2_with fail
    refine wp_loop (fun a' wr => ∃ (Ds : List Nat) (v10 v12 v13 v14 v45 v46 v47 v48 v49 v50 v51 v52 v53 v54 v55 v70 v71 v72 v73 v74 v75 : Value), (∃ (k P nO : Nat) (AO : Option Addr) (cO : Nat) (O G' : Nat → Prop) (D : Dk.D), v10 = .slice AO nO cO ∧ v45 = .int .i64 (k : Int) ∧ k ≤ n ∧ P = T + Wl.needs ((txs ms).take k) ∧ nO = ns.length + k ∧ PV w wr G G' O q mm D ∧ (O w.heap.size ∧ O (w.heap.size + 1) ∧ O bT ∧ InF O AO) ∧ (∀ B ∈ Ds, O B ∧ wr.heap[B]? = some (.deferred (some []))) ∧ Ds.Nodup ∧
        wr.heap[w.heap.size]? = some (.cells #[.pointer (some ⟨pw, 0, none⟩)] 82 (0, 0)) ∧ wr.heap[w.heap.size + 1]? = some (.cells #[.int .i64 0] 26 (0, 0)) ∧ wr.heap[bT]? = some (.cells #[.int .u64 (P : Int)] 62 (0, 0)) ∧
        wr.ownsRow w.heap.size 3 1 (.slice AO nO cO) nO (ics (ns ++ ((txs ms).take k).map Wl.need)) ∧ Wl.wrs r P (Wl.chunks ((txs ms).drop k)) D = Z ∧ PD D d.s.length (P - T)) ∧ a' = { tmps := #[.pointer (some ⟨pw, 0, none⟩), .int .i64 (gone : Int), .slice A n c, .pointer (some ⟨w.heap.size, 0, none⟩), undef, undef, .int .i64 0, .int .i64 (N : Int), .pointer (some ⟨w.heap.size + 1, 0, none⟩), .pointer (some ⟨bT, 0, none⟩), v10, undef, v12, v13, v14, undef, .pointer (some ⟨pw, 0, none⟩), .bool true, .bool false, .tuple #[.int .i64 (N : Int), .int .i64 0], .pointer (some ⟨pw, 0, none⟩), .slice A n c, .tuple #[.int .i64 (N : Int), .int .i64 0], .int .i64 (N : Int), .int .i64 0, .int .i64 0, .bool false, undef, .pointer (some ⟨pw, 0, none⟩), .int .i64 (N : Int), .int .u64 (N : Int), .tuple #[], u32, u33, u34, u35, u36, u37, u38, u39, u40, u41, u42, .slice A n c, .int .i64 (n : Int), v45, v46, v47, v48, v49, v50, v51, v52, v53, v54, v55, undef, undef, undef, undef, undef, undef, undef, undef, undef, undef, undef, undef, undef, undef, v70, v71, v72, v73, v74, v75, undef, undef, undef, undef, undef, undef, undef, undef, undef, undef, undef, undef, undef, undef, undef], defers := Ds.map mark }) (fun a' _ => n - (intOf (a'.tmps.getD 45 undef)).toNat) ?_ ?_
    · refine ⟨[], ?_⟩
      (repeat apply Exists.intro)
      refine ⟨?_, rfl⟩
      refine ⟨0, T, nO, AO, cO, _, _, d, rfl, rfl, Nat.zero_le _, by simp [Wl.needs], NO.out, PV0.out, ⟨⟨Nat.le_refl _, lt_of_block B0.out⟩, ⟨Nat.le_succ _, lt_of_block B1.out⟩, ⟨by have := ZA.out; have := BTl.out; omega, lt_of_block BT.out⟩, fun a0 e0 => ?_⟩, fun B hB => (by cases hB), List.nodup_nil, B0.out, B1.out, BT.out, ?_, HZ.out, ⟨HD.out, HL.out, by have := HC.out; omega, rfl⟩⟩
      · subst e0
        have z := OW.out.lt _ rfl
        exact ⟨by have := ZA.out; omega, z.2⟩
      · have z := own_less OW.out (b := w.heap.size) (by have := ZA.out; omega)
        simpa using z
    · rintro a0 wr ⟨Ds, v10, v12, v13, v14, v45, v46, v47, v48, v49, v50, v51, v52, v53, v54, v55, v70, v71, v72, v73, v74, v75, ⟨k, P, nO2, AO2, cO2, O, G', D, rfl, rfl, hk, hP, hnO2, hpv, ⟨oB0, oB1, oBT, oAO⟩, hDs, hNd, b0, b1, bt, how, hwr, hpd⟩, rfl⟩
      by_cases hkn : k < n
      · obtain ⟨m, hmk⟩ : ∃ m, ms[k]? = some m := ⟨_, List.getElem?_eq_getElem (by rw [← HN.out]; exact hkn)⟩
        have hmem := List.mem_of_getElem? hmk
        obtain ⟨ad, rfl, hcell⟩ := HT.out.at hpv.but hmk
        have LT := Lib.hid (HT.out.text hpv.but hmem)
        have bk : (txs ms)[k]? = some m.b := by simp [txs, hmk]
        have m6 := SM.out m.b (List.mem_of_getElem? bk)
        have NT := Lib.hid (needs_take _ bk)
        have TK := Lib.hid (take_next bk)
        have DK := Lib.hid (drop_next bk)
        have hcell2 : wr.cell? (ad.add k) = some (.slice m.A m.b.length m.c) := hcell
        have hP4 : T ≤ P ∧ P + Wl.need m.b ≤ T + N := by
          have z1 := Wl.needs_drop (txs ms) (k + 1)
          have z2 := NT.out
          have z3 := NN.out
          omega
        have PVk := Lib.hid hpv
        have NOk := Lib.hid hnO2
        have WRk := Lib.hid hwr
        have PDk := Lib.hid hpd
        have HPk := Lib.hid hP
        have HDs := Lib.hid hDs
        have HNd := Lib.hid hNd
        have B0k := Lib.hid b0
        have B1k := Lib.hid b1
        have BTk := Lib.hid bt
        have OWk := Lib.hid how
        have OB := Lib.hid (And.intro oB0 (And.intro oB1 (And.intro oBT oAO)))
        clear hpv hnO2 hwr hpd hP hcell hmem bk hDs hNd b0 b1 bt how oB0 oB1 oBT oAO
        go_wp2_with fail
        refine (fput_ok LT.out rfl m6).mono ?_
        rintro e w1 ⟨A1, n1, c1, rfl, hn1, hc1, ho1, hb1⟩
        obtain ⟨g1, rfl, hg1, hg2, hg3, _⟩ := own_at ho1 (by rw [hn1, Fr.frame_len]; omega)
        have HN1 := Lib.hid hn1
        have HC1 := Lib.hid hc1
        have HO1 := Lib.hid ho1
        have HB1 := Lib.hid hb1
        have HG1 := Lib.hid hg1
        clear hn1 hc1 ho1 hb1 hg1 hg2 hg3
        go_wp2_with fail
        refine chunk_c.mono ?_
        rintro e w2 ⟨rfl, rfl⟩
        obtain ⟨w3, hw3⟩ : ∃ w3, w3 = (w1.alloc (.cells #[.slice (some ⟨g1, 0, none⟩) n1 c1] 23)).alloc (.cells #[.int .i64 64] 3) := ⟨_, rfl⟩
        have z3 : w3.heap.size = w1.heap.size + 2 := by rw [hw3]; simp
        have b13 : Below w1.heap.size w1 w3 := by rw [hw3]; exact ((Below.refl _ _).alloc (Nat.le_refl _) _).alloc (by simp) _
        have bs : w3.cell? ⟨w1.heap.size, 0, none⟩ = some (.slice (some ⟨g1, 0, none⟩) n1 c1) := by
          have z := (Below.heap_alloc _ (.cells #[.int .i64 64] 3) w1.heap.size (by simp)).trans (heap_alloc_new w1 (.cells #[.slice (some ⟨g1, 0, none⟩) n1 c1] 23))
          rw [← hw3] at z
          simp [World.cell?, z]
        have bn : w3.cell? ⟨w1.heap.size + 1, 0, none⟩ = some (.int .i64 64) := by
          have z := heap_alloc_new (w1.alloc (.cells #[.slice (some ⟨g1, 0, none⟩) n1 c1] 23)) (.cells #[.int .i64 64] 3)
          rw [← hw3] at z
          simp only [World.size_alloc] at z
          simp [World.cell?, z]
        have br3 := HB1.out.trans (b13.mono HB1.out.size)
        have BR3 := Lib.hid br3
        have PV3 := Lib.hid (PVk.out.keep br3)
        obtain ⟨O3, hO3⟩ : ∃ O3 : Nat → Prop, O3 = fun k => O k ∨ wr.heap.size ≤ k ∧ k < w3.heap.size := ⟨_, rfl⟩
        rw [← hO3] at PV3
        have o3 := Lib.hid (show ∀ k, O k → O3 k from fun k hk => by rw [hO3]; exact .inl hk)
        have o4 := Lib.hid (show ∀ k, wr.heap.size ≤ k → k < w3.heap.size → O3 k from fun k h1 h2 => by rw [hO3]; exact .inr ⟨h1, h2⟩)
        have o5 := Lib.hid (show ∀ k, O3 k → k < w3.heap.size from fun k hk => (PV3.out.oo k hk).2.1)
        have at3 := Lib.hid (show ∀ k, O k → w3.heap[k]? = wr.heap[k]? from fun k hk => br3.block k (PVk.out.oo k hk).2.1)
        have L3 := Lib.hid ((lies_own (B := 0) HO1.out).below (Nat.zero_le _) b13)
        have g1lt : g1 < w1.heap.size := (HO1.out.lt g1 rfl).2
        have Z3 := Lib.hid z3
        have zr := HB1.out.size
        have NB := Lib.hid (show (n1 + 63) / 64 = Wl.need m.b by rw [HN1.out, need_cut m6, Wl.cut_len])
        have hN1 : n1 ≤ 60007 := by rw [HN1.out, Fr.frame_len]; omega
        have hE3 := Lib.hid (PV3.out.old hE.out)
        rw [← hw3]
        clear hw3 b13 br3 hO3
        go_wp2_with fail
        refine (wpIn_wide (n := 9)).1 ?_
        refine wpIn_rangeFunc_ownG rfl (by decide) (gf := 111) (lb := #[.pointer (some ⟨w1.heap.size, 0, none⟩), .pointer (some ⟨w1.heap.size + 1, 0, none⟩)]) rfl trivial (enters_of Tryz.func111 (by kernel_rfl) rfl)
          (chunk_stops 8 w1.heap.size (w1.heap.size + 1) g1 n1 c1 (by omega) HC1.out w3 (by omega) (by omega) bs bn) KpC.t (KpC.b (by omega) (by omega)) (Below.refl _ _) (fun _ => rfl)
          (WI w w3 G O3 q mm (w.heap.size + 1) bT P r d.s.length (P - T) D (Fr.frame m.b)) (fun cc pre W => cc = .exit 0 ∧ WX w w3 G O3 q mm (w.heap.size + 1) bT P r d.s.length (P - T) D (Fr.frame m.b) pre W)
          (WI.own (by have := HM.out; have := PVk.out.but.size; omega) (by have := PVk.out.but.size; omega) o5.out (o3.out _ OB.out.2.1) (o3.out _ OB.out.2.2.1))
          (fun cc pre W W' row hs hg hr => ⟨hs.1, WX.own (by have := HM.out; have := PVk.out.but.size; omega) (by have := PVk.out.but.size; omega) o5.out (o3.out _ OB.out.2.1) pre W W' row hs.2 hg hr⟩)
          ⟨_, D, PV3.out, fun _ _ _ _ => rfl, (at3.out _ OB.out.2.1).trans B1k.out, (at3.out _ OB.out.2.2.1).trans BTk.out, rfl, PDk.out⟩
          (fun x => { tmps := #[.pointer (some ⟨pw, 0, none⟩), .int .i64 (gone : Int), .slice (some ad) n c, .pointer (some ⟨w.heap.size, 0, none⟩), undef, undef, .int .i64 0, .int .i64 (N : Int), .pointer (some ⟨w.heap.size + 1, 0, none⟩), .pointer (some ⟨bT, 0, none⟩), .slice AO2 nO2 cO2, undef, .slice m.A m.b.length m.c, .slice (some ⟨g1, 0, none⟩) n1 c1, .int .i64 0, cval g1 n1 x, .pointer (some ⟨pw, 0, none⟩), .bool true, .bool false, .tuple #[.int .i64 (N : Int), .int .i64 0], .pointer (some ⟨pw, 0, none⟩), .slice (some ad) n c, .tuple #[.int .i64 (N : Int), .int .i64 0], .int .i64 (N : Int), .int .i64 0, .int .i64 0, .bool false, undef, .pointer (some ⟨pw, 0, none⟩), .int .i64 (N : Int), .int .u64 (N : Int), .tuple #[], u32, u33, u34, u35, u36, u37, u38, u39, u40, u41, u42, .slice (some ad) n c, .int .i64 (n : Int), .int .i64 (k : Int), .bool true, .pointer (some (ad.add k)), .slice m.A m.b.length m.c, .tuple #[.slice (some ⟨g1, 0, none⟩) n1 c1, .int .i64 0], .slice m.A m.b.length m.c, .tuple #[.slice (some ⟨g1, 0, none⟩) n1 c1, .int .i64 0], .slice (some ⟨g1, 0, none⟩) n1 c1, .int .i64 0, .slice (some ⟨g1, 0, none⟩) n1 c1, .func (.func 111) #[] #[.pointer (some ⟨w1.heap.size, 0, none⟩), .pointer (some ⟨w1.heap.size + 1, 0, none⟩)], cval g1 n1 x, undef, undef, undef, undef, undef, undef, undef, undef, undef, undef, undef, undef, undef, v70, v71, v72, v73, v74, v75, undef, undef, undef, undef, undef, undef, undef, undef, undef, undef, undef, undef, undef, undef, undef], defers := [] }) ?assign ?body ?done ?stop
        case assign =>
          intro l x W K hK
          gi_wp2
          exact hK
        case body =>
          rintro l pre x W ⟨G2, D2, hpv, h0, h1, h2, h3, h4⟩ hlen
          dsimp only
          have oB1 := o3.out _ OB.out.2.1
          have oBT := o3.out _ OB.out.2.2.1
          have oB0 := o3.out _ OB.out.1
          have oG1 := o4.out g1 HG1.out (by have := Z3.out; omega)
          have oBs := o4.out w1.heap.size (by omega) (by have := Z3.out; omega)
          have oBn := o4.out (w1.heap.size + 1) (by omega) (by have := Z3.out; omega)
          have lB1 := (PVk.out.oo _ OB.out.2.1).2.1
          have lBT := (PVk.out.oo _ OB.out.2.2.1).2.1
          have q0 := (h0 _ oB0 (by omega) (fun e => BTn.out.1 e.symm)).trans ((at3.out _ OB.out.1).trans B0k.out)
          have k0 : W.cell? ⟨w.heap.size, 0, none⟩ = some (.pointer (some ⟨pw, 0, none⟩)) := by simp [World.cell?, q0]
          have k1 : W.cell? ⟨w.heap.size + 1, 0, none⟩ = some (.int .i64 0) := by simp [World.cell?, h1]
          obtain ⟨Q, hQ⟩ : ∃ Q, Q = P + pre.length := ⟨_, rfl⟩
          rw [← hQ] at h2
          have kT : W.cell? ⟨bT, 0, none⟩ = some (.int .u64 (Q : Int)) := by simp [World.cell?, h2]
          obtain ⟨ANx, cNx, yx⟩ := HX.out.cw
          have YX := Lib.hid ((yx.keep (hpv.old hE.out)).keep (w' := W.drew) (fun _ _ => rfl))
          have kp : W.cell? ⟨pw, 0, none⟩ = some (.pointer (some ⟨q, 0, none⟩)) := by
            have z := YX.out.fields.1
            rw [HO.out] at z
            exact z
          obtain ⟨SI, hSI⟩ : ∃ SI : Int, SI = ((2 + Q % r : Nat) : Int) := ⟨_, rfl⟩
          have SEC : Hid (Calls Tryz.prog 87 #[.pointer (some ⟨pw, 0, none⟩), .int .u64 (Q : Int)] W.drew fun e w' => e = .returned (.int .i64 SI) ∧ W.drew = w') := Lib.hid (by
            rw [hSI, HRr.out]
            exact vSector_c YX.out Q)
          obtain ⟨e1, D3, hw3⟩ : ∃ e1 D3, Dk.write D2 SI (Wl.pc (Fr.frame m.b) x) = (e1, D3) := ⟨_, _, rfl⟩
          have pvd : PV w W.drew G G2 O3 q mm D2 := hpv.off (fun _ _ _ => rfl) (Nat.le_refl _) rfl rfl rfl (fun _ z => .inl z)
          have PVD := Lib.hid pvd
          have PVW := Lib.hid hpv
          have WRT : Hid (Calls Tryz.prog 95 #[.pointer (some ⟨q, 0, none⟩), .int .i64 SI, cval g1 n1 x] W.drew (CdOkM G2 q mm e1 D3 W.drew)) := Lib.hid (by
            have LW : Lies W.drew 0 5 (some ⟨g1, 0, none⟩) (bcells (Fr.frame m.b)) := L3.out.keepF (F := fun k => k = g1) (fun ad e => by injection e with e; subst e; rfl) (fun k e => by subst e; exact h0 _ oG1 (by have := HG1.out; omega) (by have := HG1.out; omega))
            have LP : Lies W.drew 0 5 (some ⟨g1, 64 * x, none⟩) (bcells (Wl.pc (Fr.frame m.b) x)) := by
              have z := (LW.cut (64 * x) ((bcells (Fr.frame m.b)).length + 64 * x + 1) (by omega)).take 64
              rw [if_neg (by omega), bcells_drop, bcells_take] at z
              rw [← addr_at]
              exact z
            have cw := cdWrite_m (c := min 64 (n1 - 64 * x)) pvd.cd h4.ok h4.left (by have := h4.few; omega) LP (fun _ ad e => by injection e with e; subst e; exact ⟨(pvd.oo _ oG1).2.2, (pvd.oo _ oG1).2.1⟩) (show min 64 (n1 - 64 * x) = _ by rw [Wl.pc_len, ← HN1.out]) (by omega) (Nat.le_refl _) SI
            rw [hw3] at cw
            exact cw)
          have b1n : bT ≠ w.heap.size + 1 := BTn.out.2
          have FAR : Hid (∀ w4, But G2 W.drew.heap.size W.drew w4 → ∀ u v : Value, KeepsFrom w3.heap.size W ((w4.setCell ⟨w.heap.size + 1, 0, none⟩ u).setCell ⟨bT, 0, none⟩ v) ∧ KpC w1.heap.size (w1.heap.size + 1) W ((w4.setCell ⟨w.heap.size + 1, 0, none⟩ u).setCell ⟨bT, 0, none⟩ v) ∧
              (∀ k, O3 k → k ≠ w.heap.size + 1 → k ≠ bT → ((w4.setCell ⟨w.heap.size + 1, 0, none⟩ u).setCell ⟨bT, 0, none⟩ v).heap[k]? = w3.heap[k]?) ∧ KeepsFrom w3.heap.size W (w4.setCell ⟨w.heap.size + 1, 0, none⟩ u) ∧ (∀ k, O3 k → k ≠ w.heap.size + 1 → (w4.setCell ⟨w.heap.size + 1, 0, none⟩ u).heap[k]? = W.heap[k]?)) := Lib.hid fun w4 hb4 u v => by
            have mine : ∀ k, O3 k → w4.heap[k]? = W.heap[k]? := fun k hk => PVD.out.mine hb4 hk
            have st1 : ∀ k, k ≠ w.heap.size + 1 → (w4.setCell ⟨w.heap.size + 1, 0, none⟩ u).heap[k]? = w4.heap[k]? := fun k hk => Below.heap_setCell _ _ _ _ hk
            have st2 : ∀ k, k ≠ bT → ((w4.setCell ⟨w.heap.size + 1, 0, none⟩ u).setCell ⟨bT, 0, none⟩ v).heap[k]? = (w4.setCell ⟨w.heap.size + 1, 0, none⟩ u).heap[k]? := fun k hk => Below.heap_setCell _ _ _ _ hk
            have ks1 : KeepsFrom w3.heap.size W (w4.setCell ⟨w.heap.size + 1, 0, none⟩ u) := ⟨by have := hb4.size; simpa using this, fun k o hB ho hc => by
              have nb : ¬ G2 k := PVW.out.else (by have := HM.out; have := PVk.out.but.size; omega) hB ho hc
              rw [st1 k (by omega), hb4.block k (lt_of_block ho) nb]
              exact ho⟩
            refine ⟨⟨by have := ks1.size; simpa using this, fun k o hB ho hc => ?_⟩, ⟨?_, ?_⟩, fun k hk n1 n2 => ?_, ks1, fun k hk n1 => (st1 k n1).trans (mine k hk)⟩
            · rw [st2 k (by omega)]
              exact ks1.same k o hB ho hc
            · exact (st2 _ (by omega)).trans ((st1 _ (by omega)).trans (mine _ oBs))
            · exact (st2 _ (by omega)).trans ((st1 _ (by omega)).trans (mine _ oBn))
            · exact (st2 k n2).trans ((st1 k n1).trans ((mine k hk).trans (h0 k hk n1 n2)))
          by_cases z1 : e1 = 0
          · subst z1
            have FIN : Hid (∀ w4, CDm w4 (Up G2 W.drew.heap.size) q mm D3 → But G2 W.drew.heap.size W.drew w4 → ownPostG w3.heap.size (KpC w1.heap.size (w1.heap.size + 1)) (WI w w3 G O3 q mm (w.heap.size + 1) bT P r d.s.length (P - T) D (Fr.frame m.b)) (fun cc pre W => cc = .exit 0 ∧ WX w w3 G O3 q mm (w.heap.size + 1) bT P r d.s.length (P - T) D (Fr.frame m.b) pre W) (pre ++ [x]) W .normal { tmps := #[], defers := [] } ((w4.setCell ⟨w.heap.size + 1, 0, none⟩ (.int .i64 0)).setCell ⟨bT, 0, none⟩ (.int .u64 ((Q + 1 : Nat) : Int)))) := Lib.hid fun w4 hr4 hb4 => by
              obtain ⟨f1, f2, f3, _, f5⟩ := FAR.out w4 hb4 (.int .i64 0) (.int .u64 ((Q + 1 : Nat) : Int))
              have pv5 := ((PVD.out.disk hr4 hb4).set (p := ⟨w.heap.size + 1, 0, none⟩) oB1 (.int .i64 0)).set (p := ⟨bT, 0, none⟩) oBT (.int .u64 ((Q + 1 : Nat) : Int))
              refine ⟨f1, f2, _, D3, pv5, f3, ?_, ?_, ?_, ?_⟩
              · refine blk_far (p := ⟨bT, 0, none⟩) ?_ (Ne.symm b1n) _
                rw [blk_set ((PVD.out.mine hb4 oB1).trans h1)]
                rfl
              · have z := (f5 bT oBT b1n).trans h2
                rw [blk_set z, List.length_append, show P + (pre.length + [x].length) = Q + 1 by rw [hQ]; simp; omega]
                rfl
              · rw [List.map_append]
                refine Wl.wrs_snoc h3 ?_
                rw [List.length_map, ← hQ, ← hSI]
                exact hw3
              · have z := h4.write hw3
                rw [List.length_append, show P - T + (pre.length + [x].length) = P - T + pre.length + 1 by simp; omega]
                exact z
            have hmx : Tryz.prog.follows .mixedOrders = true := by kernel_rfl
            have hmd : 1 ≤ 9 - 1 - 1 := by omega
            have wQ : IntKind.u64.wrap ((Q : Int) + 1) = ((Q + 1 : Nat) : Int) := by have y1 := UT.out.int; have y2 := NN.out; have y3 := HTT.out; have y4 := NB.out; rw [IntKind.wrap_u64]; omega
            have M1 := Lib.hid h1
            have M2 := Lib.hid h2
            have HQ := Lib.hid hQ
            clear hQ h0 h1 h2 h3 h4 hpv pvd hw3 hSI yx q0
            have lpw : pw < w.heap.size ∧ ¬ G pw := hE.out pw YX.out.fp
            have SC : Hid (∀ u : World, (∀ k, k = w.heap.size ∨ k = pw ∨ k = bT → u.heap[k]? = W.heap[k]?) → u.cell? ⟨w.heap.size, 0, none⟩ = some (.pointer (some ⟨pw, 0, none⟩)) ∧ u.cell? ⟨pw, 0, none⟩ = some (.pointer (some ⟨q, 0, none⟩)) ∧ u.cell? ⟨bT, 0, none⟩ = some (.int .u64 (Q : Int))) := Lib.hid fun u hu => ⟨(World.cell?_of_block (hu _ (.inl rfl))).trans k0, (World.cell?_of_block (hu _ (.inr (.inl rfl)))).trans kp, (World.cell?_of_block (hu _ (.inr (.inr rfl)))).trans kT⟩
            gi_wp2_with fail
            refine region_round (S := fun u => ∀ k, k = w.heap.size ∨ k = pw ∨ k = bT → u.heap[k]? = W.heap[k]?) (by kernel_rfl) (by kernel_rfl) (by rintro ⟨_, _, h⟩; exact h) ?_
            change wpAnyH _ _ _ _ _ _ _ _ W.drew
            have S0 : ∀ k, k = w.heap.size ∨ k = pw ∨ k = bT → W.drew.heap[k]? = W.heap[k]? := fun _ _ => rfl
            refine wpAnyH_take (i := 0) (v := ?_) rfl (by kernel_rfl) (by kernel_rfl) (by kernel_rfl) (fun _ _ _ h => h) (Or.inl ⟨by rfl, ?_⟩) (by assumption) ?_
            rotate_left
            · intro u hu
              obtain ⟨c0, c1, c2⟩ := SC.out u hu
              clear hu
              go_simp
              try rfl
            simp only [Act.put, List.setIfInBounds_toArray, List.set_cons_zero, List.set_cons_succ, List.getElem_toArray, List.getElem_cons_zero]
            refine wpAnyH_take (i := 1) (v := ?_) rfl (by kernel_rfl) (by kernel_rfl) (by kernel_rfl) (fun _ _ _ h => h) (Or.inl ⟨by rfl, ?_⟩) (by assumption) ?_
            rotate_left
            · intro u hu
              obtain ⟨c0, c1, c2⟩ := SC.out u hu
              clear hu
              go_simp
              try rfl
            simp only [Act.put, List.setIfInBounds_toArray, List.set_cons_zero, List.set_cons_succ, List.getElem_toArray, List.getElem_cons_zero, List.getElem_cons_succ]
            refine wpAnyH_take (i := 2) (v := ?_) rfl (by kernel_rfl) (by kernel_rfl) (by kernel_rfl) (fun _ _ _ h => h) (Or.inl ⟨by rfl, ?_⟩) (by assumption) ?_
            rotate_left
            · intro u hu
              obtain ⟨c0, c1, c2⟩ := SC.out u hu
              clear hu
              go_simp
              try rfl
            simp only [Act.put, List.setIfInBounds_toArray, List.set_cons_zero, List.set_cons_succ, List.getElem_toArray, List.getElem_cons_zero, List.getElem_cons_succ]
            refine wpAnyH_take (i := 3) (v := ?_) rfl (by kernel_rfl) (by kernel_rfl) (by kernel_rfl) (fun _ _ _ h => h) (Or.inl ⟨by rfl, ?_⟩) (by assumption) ?_
            rotate_left
            · intro u hu
              obtain ⟨c0, c1, c2⟩ := SC.out u hu
              clear hu
              go_simp
              try rfl
            simp only [Act.put, List.setIfInBounds_toArray, List.set_cons_zero, List.set_cons_succ, List.getElem_toArray, List.getElem_cons_zero, List.getElem_cons_succ]
            refine wpAnyH_take (i := 4) (v := ?_) rfl (by kernel_rfl) (by kernel_rfl) (by kernel_rfl) (fun _ _ _ h => h) (Or.inl ⟨by rfl, ?_⟩) (by assumption) ?_
            rotate_left
            · intro u hu
              obtain ⟨c0, c1, c2⟩ := SC.out u hu
              clear hu
              go_simp
              try rfl
            simp only [Act.put, List.setIfInBounds_toArray, List.set_cons_zero, List.set_cons_succ, List.getElem_toArray, List.getElem_cons_zero, List.getElem_cons_succ]
            refine wpAnyH_take (i := 5) (v := ?_) rfl (by kernel_rfl) (by kernel_rfl) (by kernel_rfl) (fun _ _ _ h => h) (Or.inl ⟨by rfl, ?_⟩) (by assumption) ?_
            rotate_left
            · intro u hu
              obtain ⟨c0, c1, c2⟩ := SC.out u hu
              clear hu
              go_simp
              try rfl
            simp only [Act.put, List.setIfInBounds_toArray, List.set_cons_zero, List.set_cons_succ, List.getElem_toArray, List.getElem_cons_zero, List.getElem_cons_succ]
            refine wpAnyH_take (i := 7) (v := ?_) rfl (by kernel_rfl) (by kernel_rfl) (by kernel_rfl) (fun _ _ _ h => h) (Or.inl ⟨by rfl, ?_⟩) (by assumption) ?_
            rotate_left
            · intro u hu
              obtain ⟨c0, c1, c2⟩ := SC.out u hu
              clear hu
              go_simp
              try rfl
            simp only [Act.put, List.setIfInBounds_toArray, List.set_cons_zero, List.set_cons_succ, List.getElem_toArray, List.getElem_cons_zero, List.getElem_cons_succ]
            refine wpAnyH_all (rs := [6]) (by kernel_rfl) (by simp) ?_
            intro j8 h8
            obtain rfl : j8 = 6 := by simpa using h8
            refine wpOp_step rfl (fun K hK => ?_)
            go_simp
            go_at_call 87
            refine SEC.out.mono ?_
            rintro e w' ⟨rfl, rfl⟩
            refine hK _ _ ⟨S0, ?_⟩
            clear hK K h8
            try simp only [Act.put, List.setIfInBounds_toArray, List.set_cons_zero, List.set_cons_succ, List.getElem_toArray, List.getElem_cons_zero, List.getElem_cons_succ]
            refine wpAnyH_all (rs := [8]) (by kernel_rfl) (by simp) ?_
            intro j8 h8
            obtain rfl : j8 = 8 := by simpa using h8
            refine wpOp_step rfl (fun K hK => ?_)
            go_simp
            go_at_call 95
            refine WRT.out.mono ?_
            rintro e w4 ⟨rfl, hr4, hb4⟩
            have m1 := (PVD.out.mine hb4 oB1).trans M1.out
            have j1 : w4.cell? ⟨w.heap.size + 1, 0, none⟩ = some (.int .i64 0) := by simp [World.cell?, m1]
            have f1 := blk_free m1 0
            have m2 := (PVD.out.mine hb4 oBT).trans M2.out
            have j2 : w4.cell? ⟨bT, 0, none⟩ = some (.int .u64 (Q : Int)) := by simp [World.cell?, m2]
            have f2 := blk_free m2 0
            have FF := Lib.hid (FIN.out w4 hr4 hb4)
            have S4 : ∀ k, k = w.heap.size ∨ k = pw ∨ k = bT → w4.heap[k]? = W.heap[k]? := fun k hk => by
              rcases hk with rfl | rfl | rfl
              · exact PVD.out.mine hb4 oB0
              · exact hb4.block _ (Nat.lt_of_lt_of_le lpw.1 PVD.out.but.size) (fun f => lpw.2 (PVD.out.gn _ lpw.1 f))
              · exact PVD.out.mine hb4 oBT
            refine hK _ _ ⟨S4, ?_⟩
            clear hK K h8 hr4 hb4 m1 m2
            try simp only [Act.put, List.setIfInBounds_toArray, List.set_cons_zero, List.set_cons_succ, List.getElem_toArray, List.getElem_cons_zero, List.getElem_cons_succ]
            refine wpAnyH_all (rs := [9]) (by kernel_rfl) (by simp) ?_
            intro j8 h8
            obtain rfl : j8 = 9 := by simpa using h8
            refine wpOp_step rfl (fun K hK => ?_)
            go_simp
            refine hK _ _ ⟨fun k hk => (Below.heap_setCell _ _ _ _ (by show k ≠ w.heap.size + 1; omega)).trans (S4 k hk), ?_⟩
            clear hK K h8
            try simp only [Act.put, List.setIfInBounds_toArray, List.set_cons_zero, List.set_cons_succ, List.getElem_toArray, List.getElem_cons_zero, List.getElem_cons_succ]
            refine wpAnyH_done (by kernel_rfl) ?_ _
            gi_wp2
            exact FF.out
          · have zz : (e1 != 0) = true := by simp [z1]
            have NZ := Lib.hid z1
            clear z1
            have FIN : Hid (∀ w4, CDm w4 (Up G2 W.drew.heap.size) q mm D3 → But G2 W.drew.heap.size W.drew w4 → ownPostG w3.heap.size (KpC w1.heap.size (w1.heap.size + 1)) (WI w w3 G O3 q mm (w.heap.size + 1) bT P r d.s.length (P - T) D (Fr.frame m.b)) (fun cc pre W => cc = .exit 0 ∧ WX w w3 G O3 q mm (w.heap.size + 1) bT P r d.s.length (P - T) D (Fr.frame m.b) pre W) (pre ++ [x]) W (.exit 0) { tmps := #[], defers := [] } (w4.setCell ⟨w.heap.size + 1, 0, none⟩ (.int .i64 e1))) := Lib.hid fun w4 hr4 hb4 => by
              obtain ⟨_, _, _, f4, f5⟩ := FAR.out w4 hb4 (.int .i64 e1) (.int .u64 (Q : Int))
              have pv5 := (PVD.out.disk hr4 hb4).set (p := ⟨w.heap.size + 1, 0, none⟩) oB1 (.int .i64 e1)
              refine ⟨f4, rfl, _, D3, e1, NZ.out, pv5, fun k hk n1 n2 => (f5 k hk n1).trans (h0 k hk n1 n2), ?_, ?_, ?_⟩
              · rw [blk_set ((PVD.out.mine hb4 oB1).trans h1)]
                rfl
              · rw [List.map_append]
                refine Wl.wrs_snoc h3 ?_
                rw [List.length_map, ← hQ, ← hSI]
                exact hw3
              · have z := h4.write hw3
                rw [List.length_append, show P - T + (pre.length + [x].length) = P - T + pre.length + 1 by simp; omega]
                exact z
            have hmx : Tryz.prog.follows .mixedOrders = true := by kernel_rfl
            have hmd : 1 ≤ 9 - 1 - 1 := by omega
            have M1 := Lib.hid h1
            have HQ := Lib.hid hQ
            clear hQ h0 h1 h2 h3 h4 hpv pvd hw3 hSI yx q0
            have lpw : pw < w.heap.size ∧ ¬ G pw := hE.out pw YX.out.fp
            have SC : Hid (∀ u : World, (∀ k, k = w.heap.size ∨ k = pw ∨ k = bT → u.heap[k]? = W.heap[k]?) → u.cell? ⟨w.heap.size, 0, none⟩ = some (.pointer (some ⟨pw, 0, none⟩)) ∧ u.cell? ⟨pw, 0, none⟩ = some (.pointer (some ⟨q, 0, none⟩)) ∧ u.cell? ⟨bT, 0, none⟩ = some (.int .u64 (Q : Int))) := Lib.hid fun u hu => ⟨(World.cell?_of_block (hu _ (.inl rfl))).trans k0, (World.cell?_of_block (hu _ (.inr (.inl rfl)))).trans kp, (World.cell?_of_block (hu _ (.inr (.inr rfl)))).trans kT⟩
            gi_wp2_with fail
            refine region_round (S := fun u => ∀ k, k = w.heap.size ∨ k = pw ∨ k = bT → u.heap[k]? = W.heap[k]?) (by kernel_rfl) (by kernel_rfl) (by rintro ⟨_, _, h⟩; exact h) ?_
            change wpAnyH _ _ _ _ _ _ _ _ W.drew
            have S0 : ∀ k, k = w.heap.size ∨ k = pw ∨ k = bT → W.drew.heap[k]? = W.heap[k]? := fun _ _ => rfl
            refine wpAnyH_take (i := 0) (v := ?_) rfl (by kernel_rfl) (by kernel_rfl) (by kernel_rfl) (fun _ _ _ h => h) (Or.inl ⟨by rfl, ?_⟩) (by assumption) ?_
            rotate_left
            · intro u hu
              obtain ⟨c0, c1, c2⟩ := SC.out u hu
              clear hu
              go_simp
              try rfl
            simp only [Act.put, List.setIfInBounds_toArray, List.set_cons_zero, List.set_cons_succ, List.getElem_toArray, List.getElem_cons_zero]
            refine wpAnyH_take (i := 1) (v := ?_) rfl (by kernel_rfl) (by kernel_rfl) (by kernel_rfl) (fun _ _ _ h => h) (Or.inl ⟨by rfl, ?_⟩) (by assumption) ?_
            rotate_left
            · intro u hu
              obtain ⟨c0, c1, c2⟩ := SC.out u hu
              clear hu
              go_simp
              try rfl
            simp only [Act.put, List.setIfInBounds_toArray, List.set_cons_zero, List.set_cons_succ, List.getElem_toArray, List.getElem_cons_zero, List.getElem_cons_succ]
            refine wpAnyH_take (i := 2) (v := ?_) rfl (by kernel_rfl) (by kernel_rfl) (by kernel_rfl) (fun _ _ _ h => h) (Or.inl ⟨by rfl, ?_⟩) (by assumption) ?_
            rotate_left
            · intro u hu
              obtain ⟨c0, c1, c2⟩ := SC.out u hu
              clear hu
              go_simp
              try rfl
            simp only [Act.put, List.setIfInBounds_toArray, List.set_cons_zero, List.set_cons_succ, List.getElem_toArray, List.getElem_cons_zero, List.getElem_cons_succ]
            refine wpAnyH_take (i := 3) (v := ?_) rfl (by kernel_rfl) (by kernel_rfl) (by kernel_rfl) (fun _ _ _ h => h) (Or.inl ⟨by rfl, ?_⟩) (by assumption) ?_
            rotate_left
            · intro u hu
              obtain ⟨c0, c1, c2⟩ := SC.out u hu
              clear hu
              go_simp
              try rfl
            simp only [Act.put, List.setIfInBounds_toArray, List.set_cons_zero, List.set_cons_succ, List.getElem_toArray, List.getElem_cons_zero, List.getElem_cons_succ]
            refine wpAnyH_take (i := 4) (v := ?_) rfl (by kernel_rfl) (by kernel_rfl) (by kernel_rfl) (fun _ _ _ h => h) (Or.inl ⟨by rfl, ?_⟩) (by assumption) ?_
            rotate_left
            · intro u hu
              obtain ⟨c0, c1, c2⟩ := SC.out u hu
              clear hu
              go_simp
              try rfl
            simp only [Act.put, List.setIfInBounds_toArray, List.set_cons_zero, List.set_cons_succ, List.getElem_toArray, List.getElem_cons_zero, List.getElem_cons_succ]
            refine wpAnyH_take (i := 5) (v := ?_) rfl (by kernel_rfl) (by kernel_rfl) (by kernel_rfl) (fun _ _ _ h => h) (Or.inl ⟨by rfl, ?_⟩) (by assumption) ?_
            rotate_left
            · intro u hu
              obtain ⟨c0, c1, c2⟩ := SC.out u hu
              clear hu
              go_simp
              try rfl
            simp only [Act.put, List.setIfInBounds_toArray, List.set_cons_zero, List.set_cons_succ, List.getElem_toArray, List.getElem_cons_zero, List.getElem_cons_succ]
            refine wpAnyH_take (i := 7) (v := ?_) rfl (by kernel_rfl) (by kernel_rfl) (by kernel_rfl) (fun _ _ _ h => h) (Or.inl ⟨by rfl, ?_⟩) (by assumption) ?_
            rotate_left
            · intro u hu
              obtain ⟨c0, c1, c2⟩ := SC.out u hu
              clear hu
              go_simp
              try rfl
            simp only [Act.put, List.setIfInBounds_toArray, List.set_cons_zero, List.set_cons_succ, List.getElem_toArray, List.getElem_cons_zero, List.getElem_cons_succ]
            refine wpAnyH_all (rs := [6]) (by kernel_rfl) (by simp) ?_
            intro j8 h8
            obtain rfl : j8 = 6 := by simpa using h8
            refine wpOp_step rfl (fun K hK => ?_)
            go_simp
            go_at_call 87
            refine SEC.out.mono ?_
            rintro e w' ⟨rfl, rfl⟩
            refine hK _ _ ⟨S0, ?_⟩
            clear hK K h8
            try simp only [Act.put, List.setIfInBounds_toArray, List.set_cons_zero, List.set_cons_succ, List.getElem_toArray, List.getElem_cons_zero, List.getElem_cons_succ]
            refine wpAnyH_all (rs := [8]) (by kernel_rfl) (by simp) ?_
            intro j8 h8
            obtain rfl : j8 = 8 := by simpa using h8
            refine wpOp_step rfl (fun K hK => ?_)
            go_simp
            go_at_call 95
            refine WRT.out.mono ?_
            rintro e w4 ⟨rfl, hr4, hb4⟩
            have m1 := (PVD.out.mine hb4 oB1).trans M1.out
            have j1 : w4.cell? ⟨w.heap.size + 1, 0, none⟩ = some (.int .i64 0) := by simp [World.cell?, m1]
            have f1 := blk_free m1 0
            have FF := Lib.hid (FIN.out w4 hr4 hb4)
            have S4 : ∀ k, k = w.heap.size ∨ k = pw ∨ k = bT → w4.heap[k]? = W.heap[k]? := fun k hk => by
              rcases hk with rfl | rfl | rfl
              · exact PVD.out.mine hb4 oB0
              · exact hb4.block _ (Nat.lt_of_lt_of_le lpw.1 PVD.out.but.size) (fun f => lpw.2 (PVD.out.gn _ lpw.1 f))
              · exact PVD.out.mine hb4 oBT
            refine hK _ _ ⟨S4, ?_⟩
            clear hK K h8 hr4 hb4 m1
            try simp only [Act.put, List.setIfInBounds_toArray, List.set_cons_zero, List.set_cons_succ, List.getElem_toArray, List.getElem_cons_zero, List.getElem_cons_succ]
            refine wpAnyH_all (rs := [9]) (by kernel_rfl) (by simp) ?_
            intro j8 h8
            obtain rfl : j8 = 9 := by simpa using h8
            refine wpOp_step rfl (fun K hK => ?_)
            go_simp
            refine hK _ _ ⟨fun k hk => (Below.heap_setCell _ _ _ _ (by show k ≠ w.heap.size + 1; omega)).trans (S4 k hk), ?_⟩
            clear hK K h8
            try simp only [Act.put, List.setIfInBounds_toArray, List.set_cons_zero, List.set_cons_succ, List.getElem_toArray, List.getElem_cons_zero, List.getElem_cons_succ]
            refine wpAnyH_done (by kernel_rfl) ?_ _
            gi_wp2
            exact FF.out
        case done =>
          rintro Dm xs W hDm rfl ⟨G2, D2, hpv, h0, h1, h2, h3, h4⟩ hK
          have oB1 := o3.out _ OB.out.2.1
          have oBT := o3.out _ OB.out.2.2.1
          have oB0 := o3.out _ OB.out.1
          have mB : mm < w3.heap.size := by have := HM.out; have := PVk.out.but.size; omega
          have wB : w.heap.size ≤ w3.heap.size := by have := PVk.out.but.size; omega
          have nDm : ¬ G2 Dm := hpv.else mB hDm hK rfl
          have lDm : Dm < W.heap.size := lt_of_block hK
          have hlr : (List.range ((n1 + 63) / 64)).length = Wl.need m.b := by rw [List.length_range, NB.out]
          rw [hlr] at h2 h4
          rw [HN1.out, ← Wl.cut_range] at h3
          obtain ⟨O5, hO5⟩ : ∃ O5 : Nat → Prop, O5 = fun k => O3 k ∨ k = Dm := ⟨_, rfl⟩
          have pv5 := hpv.add (by omega) lDm nDm
          rw [← hO5] at pv5
          have wr4 : Wl.wrs r (P + Wl.need m.b) (Wl.chunks ((txs ms).drop (k + 1))) D2 = Z := by
            have z := WRk.out
            rw [DK.out, Wl.chunks_cons] at z
            have z2 := Wl.wrs_then h3 z
            rwa [← need_cut m6] at z2
          have mine : ∀ kk, O kk → kk ≠ w.heap.size + 1 → kk ≠ bT → W.heap[kk]? = wr.heap[kk]? := fun kk hk n1 n2 => (h0 kk (o3.out kk hk) n1 n2).trans (at3.out kk hk)
          have nrow : ∀ kk, (Value.slice AO2 nO2 cO2).ownBlock = some kk → kk ≠ w.heap.size + 1 ∧ kk ≠ bT ∧ O kk ∧ kk ≠ w.heap.size ∧ kk ∉ Ds ∧ kk ≠ Dm := fun kk e => by
            obtain ⟨_, cs, fr, z⟩ := own_row OWk.out kk e
            refine ⟨blk_ne z B1k.out (by decide), blk_ne z BTk.out (by decide), OB.out.2.2.2.row kk e, blk_ne z B0k.out (by decide), fun hm => ?_, ?_⟩
            · rw [(HDs.out kk hm).2] at z
              cases z
            · have := lt_of_block z
              omega
          have ow : W.ownsRow w.heap.size 3 1 (.slice AO2 nO2 cO2) nO2 (ics (ns ++ ((txs ms).take k).map Wl.need)) := own_keep OWk.out (fun kk e => mine kk (nrow kk e).2.2.1 (nrow kk e).1 (nrow kk e).2.1)
          have OWa := Lib.hid (own_below ow ((Below.refl W.heap.size W).alloc (Nat.le_refl _) (.cells #[.int .i64 (Wl.need m.b : Int)] 3)))
          have pva := pv5.keep ((Below.refl W.heap.size W).alloc (Nat.le_refl _) (.cells #[.int .i64 (Wl.need m.b : Int)] 3))
          have PVA := Lib.hid pva
          have wz : w.heap.size ≤ W.heap.size := by have := hpv.but.size; exact this
          have WZ := Lib.hid wz
          have LA : Hid (Lies (W.alloc (.cells #[.int .i64 (Wl.need m.b : Int)] 3)) 0 3 (some ⟨W.heap.size, 0, none⟩) (ics [Wl.need m.b])) := Lib.hid (Lies.of_blk (heap_alloc_new W _))
          have W0 := Lib.hid ((mine _ OB.out.1 (by omega) (fun e => BTn.out.1 e.symm)).trans B0k.out)
          have W1 := Lib.hid h1
          have W2 := Lib.hid h2
          have W4 := Lib.hid h4
          have WM := Lib.hid hK
          have WW := Lib.hid wr4
          have WDs : Hid (∀ B ∈ Ds, O B ∧ B ≠ Dm ∧ W.heap[B]? = some (.deferred (some []))) := Lib.hid fun B hB => by
            obtain ⟨z1, z2⟩ := HDs.out B hB
            have n1 : B ≠ w.heap.size + 1 := fun e => by subst e; rw [B1k.out] at z2; cases z2
            have n2 : B ≠ bT := fun e => by subst e; rw [BTk.out] at z2; cases z2
            exact ⟨z1, by have := (PVk.out.oo B z1).2.1; omega, (mine B z1 n1 n2).trans z2⟩
          have NROW := Lib.hid nrow
          have HO5 := Lib.hid hO5
          have nl : nO2 ≤ 8192 := by have := NOk.out; have := HNS.out; have hz : ns.length ≤ 4096 := by rw [this, List.length_map, List.length_drop]; have := Y2.out.few; omega
                                     omega
          obtain ⟨ti, hi, iz0, iz1, iz2⟩ := info_parts Tryz.infoInt
          clear hpv h0 h1 h2 h3 h4 hK pv5 ow pva wz nrow mine wr4 hO5 hlr nDm lDm
          go_wp2_with (first
            | (go_at_call 49; refine (vNeed_c (b := m.b) rfl (by omega)).mono ?_; rintro e w' ⟨rfl, rfl⟩)
            | (at_builtin; refine wpList_app _ rfl _ _ 114 rfl w.heap.size 3 ti (.int .i64 0) 1 8 Tryz.underlying114 hi iz0 iz1 iz2 rfl (by decide) _ nO2 (ics (ns ++ ((txs ms).take k).map Wl.need)) rfl OWa.out 0 (some ⟨W.heap.size, 0, none⟩) 1 1 (ics [Wl.need m.b]) 3 rfl rfl LA.out (ics_one _) (by unfold maxLen; omega) (by omega) (by have := WZ.out; simp; omega) ?_; intro v8 w8 hown8 hgr8 hbl8; obtain ⟨A8, k8, rfl⟩ := own_slice hown8; have O8 := Lib.hid hown8; have G8 := Lib.hid hgr8; have L8 := Lib.hid hbl8; clear hown8 hgr8 hbl8))
          have gk : ∀ kk, kk < W.heap.size → (Value.slice AO2 nO2 cO2).ownBlock ≠ some kk → w8.heap[kk]? = W.heap[kk]? := fun kk h1 h2 => (G8.out.block kk (by simp; omega) (fun e => h2 e.symm)).trans (Below.heap_alloc _ _ _ h1)
          have PV8 := PVA.out.grown G8.out (fun kk e => .inl (by rw [HO5.out]; exact .inl (o3.out _ (NROW.out kk e).2.2.1)))
          have oo5 : ∀ kk, O kk → O5 kk := fun kk hk => by rw [HO5.out]; exact .inl (o3.out _ hk)
          have olt : ∀ kk, O kk → kk < W.heap.size := fun kk hk => by have z1 := (PVk.out.oo kk hk).2.1; have z2 := o5.out kk (o3.out kk hk); have z3 := lt_of_block WM.out; omega
          refine ⟨⟨Dm :: Ds, ?_⟩, by simp [intOf]; omega⟩
          (repeat apply Exists.intro)
          refine ⟨?_, rfl⟩
          refine ⟨k + 1, P + Wl.need m.b, nO2 + 1, A8, k8, _, G2, D2, rfl, by go_num, by omega, by rw [NT.out, HPk.out, Nat.add_assoc], by have := NOk.out; omega, PV8, ⟨.inl (.inl (oo5 _ OB.out.1)), .inl (.inl (oo5 _ OB.out.2.1)), .inl (.inl (oo5 _ OB.out.2.2.1)), fun a0 e0 => ?_⟩, fun B hB => ?_, List.nodup_cons.2 ⟨fun hm => (WDs.out Dm hm).2.1 rfl, HNd.out⟩, ?_, ?_, ?_, ?_, WW.out, ?_⟩
          · subst e0
            have lt := own_lt O8.out a0 rfl
            rcases L8.out with z | z
            · exact .inl (.inl (oo5 _ (NROW.out _ z.symm).2.2.1))
            · have z' : some a0.block = some (W.alloc (.cells #[.int .i64 (Wl.need m.b : Int)] 3)).heap.size := z
              injection z' with z'
              exact .inr ⟨by omega, lt⟩
          · rcases List.mem_cons.1 hB with rfl | hB
            · exact ⟨.inl (.inl (by rw [HO5.out]; exact .inr rfl)), (gk _ (lt_of_block WM.out) (fun e => (NROW.out _ e).2.2.2.2.2 rfl)).trans WM.out⟩
            · obtain ⟨z1, _, z3⟩ := WDs.out B hB
              exact ⟨.inl (.inl (oo5 _ z1)), (gk _ (olt _ z1) (fun e => (NROW.out _ e).2.2.2.2.1 hB)).trans z3⟩
          · exact (gk _ (olt _ OB.out.1) (fun e => (NROW.out _ e).2.2.2.1 rfl)).trans W0.out
          · exact (gk _ (olt _ OB.out.2.1) (fun e => (NROW.out _ e).1 rfl)).trans W1.out
          · exact (gk _ (olt _ OB.out.2.2.1) (fun e => (NROW.out _ e).2.1 rfl)).trans W2.out
          · rw [TK.out, List.map_append, ← List.append_assoc, ics_app]
            exact O8.out
          · rw [show P + Wl.need m.b - T = P - T + Wl.need m.b by omega]
            exact W4.out
        case stop =>
          rintro Dm cc pre W hDm ⟨kk, hkk, rfl⟩ ⟨rfl, G2, D2, e1, he1, hpv, h0, h1, h3, h4⟩ hK
          have oB1 := o3.out _ OB.out.2.1
          have oB0 := o3.out _ OB.out.1
          have mB : mm < w3.heap.size := by have := HM.out; have := PVk.out.but.size; omega
          have nDm : ¬ G2 Dm := hpv.else mB hDm hK rfl
          have lB1 := (PVk.out.oo _ OB.out.2.1).2.1
          have q0 := (h0 _ oB0 (by omega) (fun e => BTn.out.1 e.symm)).trans ((at3.out _ OB.out.1).trans B0k.out)
          have k0 : W.cell? ⟨w.heap.size, 0, none⟩ = some (.pointer (some ⟨pw, 0, none⟩)) := by simp [World.cell?, q0]
          have k1 : W.cell? ⟨w.heap.size + 1, 0, none⟩ = some (.int .i64 e1) := by simp [World.cell?, h1]
          obtain ⟨ANx, cNx, yx⟩ := HX.out.cw
          have rg : Wl.ring D2 = Wl.ring d := by unfold Wl.ring; rw [h4.len]
          have xw : CWD W E G2 pw q s D2 := ⟨hpv.cd.cd, ⟨ANx, cNx, by rw [rg]; exact yx.keep (hpv.old hE.out)⟩, fun k hk => Nat.lt_of_lt_of_le (hE.out k hk).1 hpv.but.size, hpv.go, fun k hk f => (hE.out k hk).2 (hpv.gn k (hE.out k hk).1 f)⟩
          have yw := yx.keep (hpv.old hE.out)
          have kp : W.cell? ⟨pw, 0, none⟩ = some (.pointer (some ⟨q, 0, none⟩)) := by
            have z := yw.fields.1
            rw [HO.out] at z
            exact z
          have fp := blk_free yw.cell 0
          have np1 : pw < w.heap.size := (hE.out pw yx.fp).1
          have nb1 : ¬ w.heap.size + 1 = pw := by omega
          have k2 : (W.setCell ⟨pw, 0, none⟩ (.pointer none)).cell? ⟨w.heap.size + 1, 0, none⟩ = some (.int .i64 e1) := by
            have z := (Below.heap_setCell W ⟨pw, 0, none⟩ (.pointer none) (w.heap.size + 1) nb1).trans h1
            simp [World.cell?, z]
          have e0 : (e1 == 0) = false := by simpa using he1
          have e2 : (e1 != 0) = true := by simpa using he1
          have VB : Hid (vchg s d gone (txs ms) = (e1, { s with over := true }, D2)) := Lib.hid (by
            refine vchg_bad HO.out HR.out ?_ he1
            have z := WRk.out
            have cr : Wl.cut (Fr.frame m.b) = (List.range kk).map (Wl.pc (Fr.frame m.b)) ++ ((List.range ((n1 + 63) / 64)).drop kk).map (Wl.pc (Fr.frame m.b)) := by
              rw [Wl.cut_range, ← HN1.out, ← List.map_append]
              congr 1
              have z := List.take_append_drop kk (List.range ((n1 + 63) / 64))
              rw [List.take_range, Nat.min_eq_left hkk] at z
              exact z.symm
            rw [DK.out, Wl.chunks_cons, cr, List.append_assoc, Wl.wrs_stop h3 he1] at z
            rw [← HRr.out, ← HTT.out, HZ.out, ← z])
          have VC : Hid (VOk E G pw q (vchg s d gone (txs ms)) w (.returned (.int .i64 e1)) (shut (W.setCell ⟨pw, 0, none⟩ (.pointer none)) (Dm :: Ds))) := Lib.hid (by
            rw [VB.out]
            refine VOk.close (y := (e1, { s with over := true }, D2)) (xw.end_ HO.out) (fun _ _ z => z) hpv.gn ?_ fun B hB => ?_
            · have z := hpv.but.mono (Nat.le_refl _) (G := fun k => E k ∨ G k) (fun k hk => .inr hk)
              exact z.setCell (p := ⟨pw, 0, none⟩) (.inl (.inl yw.fp)) _
            · have eb : ∀ k, w.heap.size ≤ k → ¬ E k := fun k hk z => by have := (hE.out k z).1; omega
              rcases List.mem_cons.1 hB with rfl | hB
              · have z : w.heap.size ≤ B := by have := PVk.out.but.size; omega
                exact ⟨z, eb _ z, nDm⟩
              · have z := hpv.oo B (o3.out _ (HDs.out B hB).1)
                exact ⟨z.1, eb _ z.1, z.2.2⟩)
          have MK : Hid (∀ B ∈ Dm :: Ds, (W.setCell ⟨pw, 0, none⟩ (.pointer none)).heap[B]? = some (.deferred (some []))) := Lib.hid fun B hB => by
            have np : pw < w.heap.size := (hE.out pw yw.fp).1
            rcases List.mem_cons.1 hB with rfl | hB
            · exact (Below.heap_setCell _ _ _ _ (by show B ≠ pw; have := PVk.out.but.size; omega)).trans hK
            · obtain ⟨z1, z2⟩ := HDs.out B hB
              have zo := PVk.out.oo B z1
              have n1 : B ≠ w.heap.size + 1 := fun e => by subst e; rw [B1k.out] at z2; cases z2
              have n2 : B ≠ bT := fun e => by subst e; rw [BTk.out] at z2; cases z2
              exact (Below.heap_setCell _ _ _ _ (by show B ≠ pw; omega)).trans ((h0 B (o3.out _ z1) n1 n2).trans ((at3.out _ z1).trans z2))
          have ND : Hid ((Dm :: Ds).Nodup) := Lib.hid (List.nodup_cons.2 ⟨fun hm => by have z1 := (PVk.out.oo Dm (HDs.out Dm hm).1).2.1; omega, HNd.out⟩)
          clear h0 h1 h3 h4 hK hpv q0 yx xw yw rg nDm
          refine wpIn_wide.2 ?_
          go_wp2
          rw [Exit.noGoto_ret]
          exact leaves_marks (v := .int .i64 e1) (Ds := Dm :: Ds) ND.out MK.out (fun u => results_tmp (t := 6) rfl _ _ u) VC.out
      · obtain rfl : k = n := by omega
        have tk : (txs ms).take k = txs ms := List.take_of_length_le (by rw [txs_len, ← HN.out]; exact Nat.le_refl _)
        have dk : (txs ms).drop k = [] := List.drop_eq_nil_of_le (by rw [txs_len, ← HN.out]; exact Nat.le_refl _)
        rw [tk] at hP how
        rw [dk] at hwr
        have hw0 : Z = (0, D) := hwr.symm
        have hPN : P = T + N := by rw [hP, ← NN.out]
        have rg : Wl.ring D = Wl.ring d := by unfold Wl.ring; rw [hpd.len]
        have HWR := Lib.hid (show Wl.wrs (Wl.ring d) (s.h + Wl.needs s.l) (Wl.chunks (txs ms)) d = (0, D) by rw [← HRr.out, ← HTT.out, HZ.out, hw0])
        obtain ⟨h', hh'⟩ : ∃ h', h' = s.h + Wl.needs (s.l.take gone) := ⟨_, rfl⟩
        obtain ⟨l', hl'⟩ : ∃ l', l' = s.l.drop gone ++ txs ms := ⟨_, rfl⟩
        have hnd := Wl.needs_drop s.l gone
        have hPl : P = h' + Wl.needs l' := by
          have z1 := HTT.out
          have z2 := NN.out
          rw [hh', hl', Wl.needs_app]
          omega
        obtain ⟨Es, hEs⟩ : ∃ Es : Nat → Prop, Es = fun kk => E kk ∨ (Value.slice AO2 nO2 cO2).ownBlock = some kk := ⟨_, rfl⟩
        have hEE := hE.out
        have rowb : ∀ kk, (Value.slice AO2 nO2 cO2).ownBlock = some kk → w.heap.size ≤ kk ∧ kk < wr.heap.size ∧ ¬ G' kk ∧ kk ≠ w.heap.size + 1 ∧ kk ∉ Ds ∧ kk ≠ w.heap.size := fun kk e => by
          obtain ⟨_, cs, fr, z⟩ := own_row how kk e
          have zo := hpv.oo kk (oAO.row kk e)
          exact ⟨zo.1, zo.2.1, zo.2.2, blk_ne z b1 (by decide), fun hm => (by rw [(hDs kk hm).2] at z; cases z), blk_ne z b0 (by decide)⟩
        obtain ⟨ANx, cNx, yx⟩ := HX.out.cw
        have yw := yx.keep (hpv.old hEE)
        have xw : CWD wr Es G' pw q s D := by
          rw [hEs]
          refine ⟨hpv.cd.cd, ⟨ANx, cNx, by rw [rg]; exact yw.mono (fun _ z => .inl z)⟩, fun kk hk => hk.elim (fun z => Nat.lt_of_lt_of_le (hEE kk z).1 hpv.but.size) (fun z => (rowb kk z).2.1), hpv.go, fun kk hk f => hk.elim (fun z => (hEE kk z).2 (hpv.gn kk (hEE kk z).1 f)) (fun z => (rowb kk z).2.2.1 f)⟩
        have xwd : CWD wr.drew Es G' pw q s D := xw.off (fun _ _ => rfl) (Nat.le_refl _)
        have ll : nO2 = l'.length := by
          have z1 := HNS.out
          rw [hnO2, hl', z1, List.length_append, List.length_map, txs_len, ← HN.out]
        have icl : ics (ns ++ (txs ms).map Wl.need) = ics (l'.map Wl.need) := by rw [HNS.out, hl', List.map_append]
        rw [icl] at how
        have cs := vSave_c (w := wr.drew) (h' := h') (l' := l') (A := AO2) (n := nO2) (c := cO2) xwd HO.out hpd.ok hpd.left (by have := hpd.few; omega) UG.out (lies_own (B := 0) how) (by rw [hEs]; exact fun a0 e0 => by subst e0; exact .inr rfl) ll (own_room how).2
          (fun b hb => by rw [hl', List.mem_append] at hb; exact hb.elim (fun z => yx.small b (List.mem_of_mem_drop z)) (SM.out b)) (by rw [rg, hl', Wl.needs_app]; have := FT.out; have := yx.fits; omega) (by rw [← hPl]; exact Nat.lt_of_le_of_lt (by have := HTT.out; have := NN.out; omega) UT.out)
        rw [← hPl] at cs
        obtain ⟨e1, s2, D2, hsv⟩ : ∃ e1 s2 D2, vsave s D h' l' = (e1, s2, D2) := ⟨_, _, _, rfl⟩
        rw [hsv] at cs
        have CS := Lib.hid cs
        have VS2 : Hid (vchg s d gone (txs ms) = (e1, (if e1 = 0 then s2 else { s with over := true }), D2)) := Lib.hid (vchg_save HO.out HR.out HWR.out (by rw [← hh', ← hl']; exact hsv))
        have hs2 : e1 ≠ 0 → s2 = s := fun hz => by
          unfold vsave at hsv
          split at hsv
          · injection hsv with z
            exact absurd z.symm hz
          · injection hsv with _ z
            injection z with z
            exact z.symm
        have BH : Hid (∀ u : World, u.heap = wr.heap → Calls Tryz.prog 97 #[.pointer (some ⟨pw, 0, none⟩), .int .i64 (gone : Int)] u fun e w' => e = .returned (.int .u64 (h' : Int)) ∧ w' = u) := Lib.hid fun u hu => by
          rw [hh']
          exact (vBehind_c (yw.keep (fun kk _ => by rw [hu])) HGo.out).mono fun _ _ ⟨z1, z2⟩ => ⟨z1, z2.symm⟩
        have PVk := Lib.hid hpv
        have k0 : wr.cell? ⟨w.heap.size, 0, none⟩ = some (.pointer (some ⟨pw, 0, none⟩)) := by simp [World.cell?, b0]
        have k1 : wr.cell? ⟨w.heap.size + 1, 0, none⟩ = some (.int .i64 0) := by simp [World.cell?, b1]
        have kT : wr.cell? ⟨bT, 0, none⟩ = some (.int .u64 (P : Int)) := by simp [World.cell?, bt]
        have np1 : pw < w.heap.size := (hEE pw yx.fp).1
        have nb1 : ¬ w.heap.size + 1 = pw := by omega
        have nb2 : ¬ pw = w.heap.size + 1 := by omega
        have FR : Hid (∀ w4 E4 G4, CWD w4 E4 G4 pw q s2 D2 → (∀ k, k < wr.drew.heap.size → E4 k → Es k) → (∀ k, k < wr.drew.heap.size → G4 k → G' k) → But (fun k => Es k ∨ G' k) wr.drew.heap.size wr.drew w4 →
            (∀ k, k < w.heap.size → E4 k → E k) ∧ (∀ k, k < w.heap.size → G4 k → G k) ∧ But (fun k => E k ∨ G k) w.heap.size w w4 ∧ (∀ k, O k → (Value.slice AO2 nO2 cO2).ownBlock ≠ some k → ¬ E4 k ∧ ¬ G4 k ∧ w4.heap[k]? = wr.heap[k]?)) := Lib.hid fun w4 E4 G4 x4 e4 g4 b4 => by
          have zw := PVk.out.but.size
          have ee : ∀ k, k < w.heap.size → Es k → E k := fun k hk hz => by
            rw [hEs] at hz
            exact hz.elim id (fun z => by have := (rowb k z).1; omega)
          refine ⟨fun k hk hz => ee k hk (e4 k (Nat.lt_of_lt_of_le hk zw) hz), fun k hk hz => PVk.out.gn k hk (g4 k (Nat.lt_of_lt_of_le hk zw) hz), ⟨b4.os.trans PVk.out.but.os, b4.tape.trans PVk.out.but.tape, b4.output.trans PVk.out.but.output, Nat.le_trans zw b4.size, fun k hk hf => (b4.block k (Nat.lt_of_lt_of_le hk zw) (fun z => hf (z.elim (fun y => .inl (ee k hk y)) (fun y => .inr (PVk.out.gn k hk y))))).trans (PVk.out.but.block k hk (fun z => hf (.inr z)))⟩, fun k hk hr => ?_⟩
          have zo := PVk.out.oo k hk
          have ne : ¬ Es k := fun hz => by
            rw [hEs] at hz
            exact hz.elim (fun z => by have := (hEE k z).1; omega) hr
          exact ⟨fun z => ne (e4 k zo.2.1 z), fun z => zo.2.2 (g4 k zo.2.1 z), b4.block k zo.2.1 (fun z => z.elim ne zo.2.2)⟩
        have RB := Lib.hid rowb
        have HDs := Lib.hid hDs
        have HNd := Lib.hid hNd
        have B0k := Lib.hid b0
        have B1k := Lib.hid b1
        have OB := Lib.hid (And.intro oB0 oB1)
        have HS2 := Lib.hid hs2
        have HOv := HO.out
        clear hpv hnO2 hwr hpd hP hDs hNd b0 b1 bt how oB0 oB1 oBT oAO hw0 hPN rg hh' hl' hnd hPl hEs hEE rowb yx yw xw xwd ll icl cs hsv hs2 tk dk
        go_upto_region 20 with fail
        go_still_tail 6, (by kernel_rfl)
        still_call (BH.out _ rfl)
        repeat still_step
        refine wpStill_nil ?_
        change wpList _ _ _ _ _ wr.drew
        go_wp2_with fail
        refine CS.out.mono ?_
        rintro e w4 ⟨rfl, E4, G4, x4, e4, g4, b4⟩
        obtain ⟨fe, fg, fb, fo⟩ := FR.out w4 E4 G4 x4 e4 g4 b4
        have ob0 := fo _ OB.out.1 (fun e => (RB.out _ e).2.2.2.2.2 rfl)
        have ob1 := fo _ OB.out.2 (fun e => (RB.out _ e).2.2.2.1 rfl)
        have m1 := ob1.2.2.trans B1k.out
        have m0 := ob0.2.2.trans B0k.out
        have j1 : w4.cell? ⟨w.heap.size + 1, 0, none⟩ = some (.int .i64 0) := by simp [World.cell?, m1]
        have f1 := blk_free m1 0
        have j0 : w4.cell? ⟨w.heap.size, 0, none⟩ = some (.pointer (some ⟨pw, 0, none⟩)) := by simp [World.cell?, m0]
        have DM : Hid (∀ B ∈ Ds, w.heap.size ≤ B ∧ ¬ E4 B ∧ ¬ G4 B ∧ w4.heap[B]? = some (.deferred (some [])) ∧ B ≠ w.heap.size + 1 ∧ B ≠ pw) := Lib.hid fun B hB => by
          obtain ⟨z1, z2⟩ := HDs.out B hB
          have zo := PVk.out.oo B z1
          obtain ⟨y1, y2, y3⟩ := fo B z1 (fun e => (RB.out _ e).2.2.2.2.1 hB)
          exact ⟨zo.1, y1, y2, y3.trans z2, (fun e => by subst e; rw [B1k.out] at z2; cases z2), by omega⟩
        have X4 := Lib.hid x4
        have FE := Lib.hid fe
        have FG := Lib.hid fg
        have FB := Lib.hid fb
        have N1 := Lib.hid (And.intro ob1.1 ob1.2.1)
        have EP : Hid (E pw) := Lib.hid (by obtain ⟨_, _, z⟩ := HX.out.cw; exact z.fp)
        have wb := PVk.out.oo _ OB.out.2
        by_cases z1 : e1 = 0
        · subst z1
          have VC : Hid (VOk E G pw q (vchg s d gone (txs ms)) w (.returned (.int .i64 0)) (shut (w4.setCell ⟨w.heap.size + 1, 0, none⟩ (.int .i64 0)) Ds)) := Lib.hid (by
            rw [VS2.out, if_pos rfl]
            refine VOk.close (y := (0, s2, D2)) (X4.out.off (fun kk hk => Below.heap_setCell _ _ _ _ (fun e => by have e' : kk = w.heap.size + 1 := e; rw [e'] at hk; exact hk.elim N1.out.1 N1.out.2)) (by simp)) FE.out FG.out (FB.out.setCell (p := ⟨w.heap.size + 1, 0, none⟩) (.inr (Nat.le_succ _)) _) fun B hB => ?_
            have z := DM.out B hB
            exact ⟨z.1, z.2.1, z.2.2.1⟩)
          have MK : Hid (∀ B ∈ Ds, (w4.setCell ⟨w.heap.size + 1, 0, none⟩ (.int .i64 0)).heap[B]? = some (.deferred (some []))) := Lib.hid fun B hB => by
            have z := DM.out B hB
            exact (Below.heap_setCell _ _ _ _ z.2.2.2.2.1).trans z.2.2.2.1
          clear x4 e4 g4 b4 fe fg fb fo ob0 ob1 m1 m0
          go_wp2
          rw [Exit.noGoto_ret]
          exact leaves_marks (v := .int .i64 0) (Ds := Ds) HNd.out MK.out (fun u => results_tmp (t := 6) rfl _ _ u) VC.out
        · obtain rfl := HS2.out z1
          have e0 : (e1 == 0) = false := by simpa using z1
          have e2 : (e1 != 0) = true := by simpa using z1
          have x5 : CWD (w4.setCell ⟨w.heap.size + 1, 0, none⟩ (.int .i64 e1)) E4 G4 pw q s2 D2 := X4.out.off (fun kk hk => Below.heap_setCell _ _ _ _ (fun e => by have e' : kk = w.heap.size + 1 := e; rw [e'] at hk; exact hk.elim N1.out.1 N1.out.2)) (by simp)
          have X5 := Lib.hid x5
          obtain ⟨A5, c5, y5⟩ := x5.cw
          have kp : (w4.setCell ⟨w.heap.size + 1, 0, none⟩ (.int .i64 e1)).cell? ⟨pw, 0, none⟩ = some (.pointer (some ⟨q, 0, none⟩)) := by
            have z := y5.fields.1
            rw [HOv] at z
            exact z
          have fp := blk_free y5.cell 0
          have k9 : (w4.setCell ⟨w.heap.size + 1, 0, none⟩ (.int .i64 e1)).cell? ⟨w.heap.size, 0, none⟩ = some (.pointer (some ⟨pw, 0, none⟩)) := by
            have z := (Below.heap_setCell w4 ⟨w.heap.size + 1, 0, none⟩ (.int .i64 e1) w.heap.size (by show w.heap.size ≠ w.heap.size + 1; omega)).trans m0
            simp [World.cell?, z]
          have k2 : ((w4.setCell ⟨w.heap.size + 1, 0, none⟩ (.int .i64 e1)).setCell ⟨pw, 0, none⟩ (.pointer none)).cell? ⟨w.heap.size + 1, 0, none⟩ = some (.int .i64 e1) := by
            have z := (Below.heap_setCell (w4.setCell ⟨w.heap.size + 1, 0, none⟩ (.int .i64 e1)) ⟨pw, 0, none⟩ (.pointer none) (w.heap.size + 1) nb1).trans (blk_set m1 0 (.int .i64 e1))
            simp [World.cell?, z]
          have VC : Hid (VOk E G pw q (vchg s2 d gone (txs ms)) w (.returned (.int .i64 e1)) (shut ((w4.setCell ⟨w.heap.size + 1, 0, none⟩ (.int .i64 e1)).setCell ⟨pw, 0, none⟩ (.pointer none)) Ds)) := Lib.hid (by
            rw [VS2.out, if_neg z1]
            refine VOk.close (y := (e1, { s2 with over := true }, D2)) (X5.out.end_ HOv) FE.out FG.out ((FB.out.setCell (p := ⟨w.heap.size + 1, 0, none⟩) (.inr (Nat.le_succ _)) _).setCell (p := ⟨pw, 0, none⟩) (.inl (.inl EP.out)) _) fun B hB => ?_
            have z := DM.out B hB
            exact ⟨z.1, z.2.1, z.2.2.1⟩)
          have MK : Hid (∀ B ∈ Ds, ((w4.setCell ⟨w.heap.size + 1, 0, none⟩ (.int .i64 e1)).setCell ⟨pw, 0, none⟩ (.pointer none)).heap[B]? = some (.deferred (some []))) := Lib.hid fun B hB => by
            have z := DM.out B hB
            exact (Below.heap_setCell _ _ _ _ z.2.2.2.2.2).trans ((Below.heap_setCell _ _ _ _ z.2.2.2.2.1).trans z.2.2.2.1)
          clear x4 e4 g4 b4 fe fg fb fo ob0 ob1 m1 m0 x5 y5 z1
          go_wp2
          rw [Exit.noGoto_ret]
          exact leaves_marks (v := .int .i64 e1) (Ds := Ds) HNd.out MK.out (fun u => results_tmp (t := 6) rfl _ _ u) VC.out
end
end Go.Proofs.YtpnfpeeijghamaaGreat
