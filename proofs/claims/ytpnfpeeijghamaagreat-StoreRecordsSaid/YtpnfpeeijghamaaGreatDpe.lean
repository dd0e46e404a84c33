/- The code's own Disk: settle, as Flush calls it. The code's own Disk: settle, as Crash calls it. -/
import Derived.Test.YtpnfpeeijghamaaGreatDpa
namespace Go.Proofs.YtpnfpeeijghamaaGreat
open Go.RowKit
set_option maxRecDepth 100000

theorem map_clear_any {P : Program} {w : World} {t k e : TypeId} {b n : Nat} {D : DataW Value} (h : w.ownsMap P k asIs b n D) (ht : P.underlying t = some (.map k e)) :
    ∃ w', (∀ ty, (Builtin.clear_ #[t] ty #[.map (some b)]).run P w = .ok (.tuple #[]) w') ∧ w'.ownsMap P k asIs b 0 (.map []) ∧ w.grownBy w' (some b) := by
  obtain ⟨w', hr, h1, h2⟩ := map_clear h ht 0
  exact ⟨w', fun ty => hr, h1, h2⟩

/-- The kept sectors' block. -/
def FK (AK : Option Addr) : Nat → Prop := fun k => ∃ a, AK = some a ∧ k = a.block

/-- All writes that stay are kept, nothing is cached. -/
theorem CD6.settled {w w' : World} {G G' : Nat → Prop} {q : Nat} {AK : Option Addr} {cK m : Nat} {AF : Option Addr} {cF : Nat} {lf : Int} {s s' : List (List UInt8)} {c : List (Nat × List UInt8)} {bad : List Bool} {dead : Bool} {D : DataW Value} {n : Nat} {V : Nat → Option Addr × Nat}
    (h : CD6 w G q AK cK m AF cF lf s c bad dead D n V) (hs : s'.length = s.length)
    (hq : w'.heap[q]? = some (.cells #[.slice AK s.length cK, .map (some m), .int .i64 0, .slice AF bad.length cF, .int .i64 lf, .bool dead] 81 (0, 0)))
    (hk : w'.ownsRow 0 125 64 (.slice AK s.length cK) s.length (kcells s')) (hm : w'.ownsMap Tryz.prog 3 asIs m 0 (.map [])) (hf : w'.ownsRow 0 4 1 (.slice AF bad.length cF) bad.length (bad.map Value.bool))
    (hG : ∀ k, G k → G' k) : CD6 w' G' q AK cK m AF cF lf s' [] bad dead (.map []) 0 (fun _ => (none, 0)) :=
  ⟨hG q h.fp, by rw [hs]; exact hq, by rw [hs]; exact hk, h.kF.mono hG, hG m h.mF, hm, Nat.le_refl _, fun _ _ => rfl, fun _ _ => rfl, fun kl hkl => (by rw [has_empty] at hkl; cases hkl), fun _ _ => World.ownsRow_nil _ _ _ _, fun _ _ => InF.none, fun _ _ _ _ _ _ _ e => (by cases e), hf, h.fF.mono hG⟩

theorem flushStays_c (t : Int) (w : World) : Calls Tryz.prog 118 #[.int .i64 t] w fun e w' => e = .returned (.bool true) ∧ w = w' := by
  go_enter Tryz.func118, Tryz.ntmps118
  go_wp2
  go_ret
  exact ⟨rfl, rfl⟩

set_option maxHeartbeats 16000000 in
set_option maxRecDepth 100000 in
theorem cdSettleF_c {w : World} {G : Nat → Prop} {q : Nat} {d : Dk.D} (h : CD w G q d) (hd : d.ok) (hcl : d.cache.length ≤ 100000000) :
    Calls Tryz.prog 52 #[.pointer (some ⟨q, 0, none⟩), .func (.func 118) #[] #[]] w (CdOk0 G q { d with s := Dk.keepBy (fun _ => true) 0 d.s d.cache, cache := [] } w) := by
  obtain ⟨st, hst⟩ : ∃ st : Nat → Bool, st = (fun _ => true) := ⟨_, rfl⟩
  rw [← hst]
  have ST := Lib.hid hst
  obtain ⟨AK, cK, m, AF, cF, lf, D, n, V, r, e⟩ := h
  obtain ⟨_, c1, _, _, _, _, _⟩ := r.fields
  have R := Lib.hid r
  have E := Lib.hid e
  have HD := Lib.hid hd
  have qlt := lt_of_block r.cell
  have mlt := r.map.lt
  have hf4 := hd.few
  have KL := Maps.int_keyed (P := Tryz.prog) (k := 3) Tryz.underlying3
  have MAP := r.map
  have NFq : Hid (¬ FK AK q) := Lib.hid fun ⟨a, e, eq⟩ => by
    obtain ⟨_, cs, fr, hb⟩ := own_row r.k a.block (by rw [e]; rfl)
    exact blk_ne r.cell hb (by decide) eq
  have NFm : Hid (¬ FK AK m) := Lib.hid fun ⟨a, e, eq⟩ => by
    obtain ⟨_, cs, fr, hb⟩ := own_row r.k a.block (by rw [e]; rfl)
    exact map_ne r.map hb eq
  have GFK : Hid (∀ k, FK AK k → G k) := Lib.hid fun k ⟨a, e, eq⟩ => eq ▸ r.kF a e
  clear r e hd hst
  go_enter Tryz.func52, Tryz.ntmps52
  go_wp2_with (first | (at_range; refine wpList_range_own _ rfl (.tmp 11) 79 rfl 3 _ KL Tryz.underlying79 asIs m n D rfl MAP ?_; intro w0 hrg0 hg0 hs0) | fail)
  go_frame
  have B0 : Below w.heap.size w w0 := (Below.refl _ _).grown hg0 (Nat.le_refl _) (fun k e => by cases e)
  have HRG0 := Lib.hid hrg0
  have HB0 := Lib.hid B0
  clear hrg0 hg0 hs0 B0 MAP
  go_loopw [4] (fun _ wr => ∃ (left : Lit → Bool) (cnt : Nat), wr.ranges Tryz.prog 3 asIs m w.heap.size n D left cnt ∧ (∀ kl, left kl = true → Maps.has D kl = true) ∧ wr.ownsRow 0 125 64 (.slice AK d.s.length cK) d.s.length (kcells (Dk.kept st d.s d.cache (fun i => left (key (i : Int))))) ∧ But (FK AK) w.heap.size w wr) (fun _ wr => wr.rangeLeft m w.heap.size)
  case atStart =>
    refine ⟨_, _, HRG0.out, fun _ h => h, ?_, But.of_below HB0.out _⟩
    rw [Dk.kept_start]
    · exact own_below R.out.k HB0.out
    · intro i hi hl
      rw [R.out.has i hi] at hl
      simpa using hl
  case round =>
    obtain ⟨left, cnt, hrg, hlh, hown, hbut⟩ := hrel
    have HRG := Lib.hid hrg
    have HLH := Lib.hid hlh
    have HOW := Lib.hid hown
    have HBU := Lib.hid hbut
    clear hlh hown hbut
    go_wp2_with (at_next; refine wpList_next_ranges _ rfl (.tmp 12) rfl 3 KL asIs (Value.int .i64) (fun s : Option Addr × Nat × Nat => Value.slice s.1 s.2.1 s.2.2) (fun key kl hk => by obtain ⟨x, e, _⟩ := Maps.keyOf_int_inv Tryz.underlying3 hk; exact ⟨x, e⟩) (fun v y hv => by obtain ⟨s, e, _⟩ := asIs_inv hv; exact ⟨s, e⟩) m w.heap.size n D _ _ rfl hrg ?_ ?_)
    · intro hc0 hl0
      have KE : Hid (Dk.kept st d.s d.cache (fun i => left (key (i : Int))) = Dk.keepBy st 0 d.s d.cache) := Lib.hid (Dk.kept_end fun i => hl0 _)
      have c1' : wr.cell? ⟨q, 1, none⟩ = some (.map (some m)) := (World.cell?_of_block (HBU.out.block q qlt NFq.out)).trans c1
      obtain ⟨w9, hrun9, hmap9, hg9⟩ := map_clear_any HRG.out.owns Tryz.underlying79
      have q9 := (hg9.block q (Nat.lt_of_lt_of_le qlt HBU.out.size) (fun e => map_ne R.out.map R.out.cell (by injection e with e; exact e.symm))).trans ((HBU.out.block q qlt NFq.out).trans R.out.cell)
      have f9 := blk_free q9 2
      have c9 : w9.cell? ⟨q, 2, none⟩ = some (.int .i64 (d.cache.length : Int)) := by simp [World.cell?, q9]
      have k9 : Hid (w9.ownsRow 0 125 64 (.slice AK d.s.length cK) d.s.length (kcells (Dk.keepBy st 0 d.s d.cache))) := Lib.hid (by
        have o := HOW.out
        rw [KE.out] at o
        exact own_keep o fun k hk => hg9.block k (o.lt k hk).2 (fun e => by
          injection e with e
          obtain ⟨_, cs, fr, hb⟩ := own_row o k hk
          exact map_ne HRG.out.owns hb e.symm))
      have b9 : Hid (w9.ownsRow 0 4 1 (.slice AF d.bad.length cF) d.bad.length (d.bad.map Value.bool)) := Lib.hid (own_keep R.out.f fun k hk => by
        obtain ⟨_, cs, fr, hb⟩ := own_row R.out.f k hk
        refine (hg9.block k (Nat.lt_of_lt_of_le (lt_of_block hb) HBU.out.size) (fun e => by injection e with e; exact map_ne R.out.map hb e.symm)).trans (HBU.out.block k (lt_of_block hb) ?_)
        rintro ⟨a, e, eq⟩
        obtain ⟨_, cs2, fr2, hb2⟩ := own_row R.out.k a.block (by rw [e]; rfl)
        exact blk_ne hb hb2 (by decide) eq)
      have Q9 := Lib.hid q9
      have M9 := Lib.hid hmap9
      have G9 := Lib.hid (But.grown (F := G) (HBU.out.mono (Nat.le_refl _) GFK.out) hg9 HBU.out.size (fun k e => by injection e with e; subst e; exact .inl R.out.mF))
      clear hc0 hl0 hrg hmap9 hg9 q9 KL mlt qlt hf4 hcl
      go_wp2_with (refine wpList_clear_run rfl (.tmp 40) 79 rfl _ rfl (hrun9 _) ?_)
      go_end0
      refine ⟨rfl, ⟨AK, cK, m, AF, cF, lf, .map [], 0, fun _ => (none, 0), CD6.settled R.out (Dk.keepBy_len _ _ _ _) ?_ (own_off k9.out Q9.out (by decide) set_off) (map_keep M9.out (set_off m (map_ne M9.out Q9.out))) (own_off b9.out Q9.out (by decide) set_off) (fun k g => .inl g), E.out⟩, G9.out.setCell (.inl R.out.fp) _⟩
      rw [blk_set Q9.out]; rfl
    · intro x A1 n1 k1 kl y1 y2 w1 cnt1 hkey hlk hv hat hrg1 hlt hg1 hs1 hen
      obtain ⟨i, hi, hki⟩ := R.out.keys kl (HLH.out kl hlk)
      obtain ⟨x', ex, ekl, _⟩ := Maps.keyOf_int_inv Tryz.underlying3 hkey
      injection ex with _ ex
      subst ex
      obtain rfl : x = (i : Int) := by rw [hki] at ekl; unfold key at ekl; injection ekl with _ ekl; exact ekl.symm
      have hy1 : y1 = .held (.slice A1 n1 k1) := by
        have q1 := hv
        unfold asIs at q1
        injection q1 with q1
        injection q1 with q1 _
        exact q1.symm
      have hat2 := (hat (.held (.slice none 0 0))).symm.trans ((congrArg (fun z => D.atKey z (.held (.slice none 0 0))) hki).trans (R.out.look i hi))
      rw [hy1] at hat2
      injection hat2 with hat2
      injection hat2 with eA en ek
      subst hki
      obtain ⟨l, hl⟩ : ∃ l, l = Dk.wts d.cache i := ⟨_, rfl⟩
      rw [← hl] at en
      have RW : w.ownsRow 0 127 65 (.slice A1 n1 k1) n1 (rcells l) := by
        have q1 := R.out.row i hi
        rw [← hl, ← en, ← eA, ← ek] at q1
        exact q1
      have hwl : n1 ≤ 100000000 := by rw [en, hl]; exact Nat.le_trans (Dk.wts_len _ _) hcl
      obtain ⟨gK, capK, hAK, _, hgK⟩ := R.out.k.form (by omega)
      injection hAK with hAK _ hcK
      subst hcK
      subst hAK
      obtain ⟨b0, hb0⟩ : ∃ b0, b0 = d.s.getD i [] := ⟨_, rfl⟩
      obtain ⟨KP, hKP⟩ : ∃ KP, KP = Dk.kept st d.s d.cache (fun i => left (key (i : Int))) := ⟨_, rfl⟩
      have LM : Hid (∀ x ∈ l, x.1 < d.cache.length ∧ x.2.length = 64) := Lib.hid fun x hx => by
        rw [hl] at hx
        exact ⟨(Dk.wts_mem hx).1, (HD.out.at_ _ (Dk.wts_mem hx).2).2⟩
      have b64 : b0.length = 64 := by rw [hb0]; exact HD.out.secs _ (List.mem_of_getElem? (Dk.getD_at hi))
      have KP64 : ∀ b ∈ KP, b.length = 64 := by rw [hKP]; exact Dk.kept_secs HD.out.secs (fun w hw => (HD.out.at_ w hw).2)
      have KPL : KP.length = d.s.length := by rw [hKP]; exact Dk.kept_len _ _ _ _
      have KP0 : KP.set i b0 = KP := by
        apply List.ext_getElem?
        intro j
        by_cases e : i = j
        · subst e
          rw [List.getElem?_set_self (by omega), hKP, Dk.kept_at hi, if_pos hlk, hb0]
        · rw [List.getElem?_set_ne e]
      have KPE : Hid (KP.set i (Dk.after st b0 l) = Dk.kept st d.s d.cache (fun j => (left (key (j : Int)) && !(key (j : Int)).sameKey (key (i : Int))))) := Lib.hid (by
        rw [hKP, hb0, hl]
        refine Dk.kept_step fun j => ?_
        rw [key_same]
        by_cases e : j = i
        · subst e; simp
        · have e2 : ¬ (j : Int) = (i : Int) := by omega
          simp [e, e2])
      have OW1 : Hid (w1.ownsRow 0 125 64 (.slice (some ⟨gK, 0, none⟩) d.s.length cK) d.s.length (kcells (KP.set i (Dk.after st b0 (l.take 0))))) := Lib.hid (by
        show w1.ownsRow 0 _ 64 _ _ (kcells (KP.set i b0))
        rw [KP0, hKP]
        refine own_keep HOW.out fun k hk => hg1.block k (HOW.out.lt k hk).2 (fun e => ?_)
        injection e with e
        obtain ⟨_, cs, fr, hb⟩ := own_row HOW.out k hk
        have h1 := HRG.out.lt
        have h2 : k < w.heap.size := by
          have : (Value.slice (some (⟨gK, 0, none⟩ : Addr)) d.s.length cK).ownBlock = some k := hk
          exact (R.out.k.lt k this).2
        omega)
      have BU1 : Hid (But (FK (some ⟨gK, 0, none⟩)) w.heap.size w w1) := Lib.hid (HBU.out.grown hg1 HBU.out.size (fun k e => by injection e with e; subst e; exact .inr (Nat.le_refl _)))
      have HRG1 := Lib.hid hrg1
      have MG : Hid (m ≠ gK) := Lib.hid fun e => NFm.out ⟨_, rfl, e⟩
      have RG : Hid (w.heap.size ≠ gK) := Lib.hid (by omega)
      have HEN := Lib.hid en
      have HKP64 := Lib.hid KP64
      have HKPL := Lib.hid KPL
      have HB64 := Lib.hid b64
      have HRW := Lib.hid RW
      have HLT := Lib.hid hlt
      have qgK : Hid (q ≠ gK) := Lib.hid fun e => NFq.out ⟨_, rfl, e⟩
      have i0 : (i : Int) < (d.s.length : Int) := by omega
      have hlt2 := hlt
      clear hkey hv hat hg1 hs1 eA en ek hl hlk hb0 hKP KP0 KPL KP64 b64 RW hrg1 hlt hrg
      go_wp2_with fail
      go_loopw [20] (fun u wr2 => ∃ k : Nat, u = .int .i64 k ∧ k ≤ n1 ∧ wr2.ranges Tryz.prog 3 asIs m w.heap.size n D (fun z => left z && !z.sameKey (key (i : Int))) cnt1 ∧ wr2.ownsRow 0 125 64 (.slice (some ⟨gK, 0, none⟩) d.s.length cK) d.s.length (kcells (KP.set i (Dk.after st b0 (l.take k)))) ∧ But (FK (some ⟨gK, 0, none⟩)) w.heap.size w wr2) (fun u _ => n1 - (intOf u).toNat)
      case atStart => exact ⟨0, rfl, Nat.zero_le _, HRG1.out, OW1.out, BU1.out⟩
      case round =>
        obtain ⟨k, rfl, hk, hrg2, hown2, hbut2⟩ := hrel
        have HRG2 := Lib.hid hrg2
        have HOW2 := Lib.hid hown2
        have HBU2 := Lib.hid hbut2
        clear hrg2 hown2 hbut2
        by_cases hkn : k < n1
        · obtain ⟨x, hx⟩ : ∃ x, l[k]? = some x := ⟨_, List.getElem?_eq_getElem (by rw [← HEN.out]; exact hkn)⟩
          obtain ⟨xlt, x64⟩ := LM.out x (List.mem_of_getElem? hx)
          have RW2 : wr.ownsRow 0 127 65 (.slice A1 n1 k1) n1 (rcells l) := own_keep HRW.out fun g hg => by
            obtain ⟨_, cs, fr, hb⟩ := own_row HRW.out g hg
            refine HBU2.out.block g (lt_of_block hb) ?_
            rintro ⟨a, e, eq⟩
            obtain ⟨_, cs2, fr2, hb2⟩ := own_row R.out.k a.block (by rw [e]; rfl)
            exact blk_ne hb hb2 (by decide) eq
          obtain ⟨gV, capV, hAV, _, hgV⟩ := RW2.form (by omega)
          injection hAV with hAV _ hcV
          subst hcV
          subst hAV
          obtain ⟨Xs, hXs⟩ : ∃ Xs, Xs = rcell x := ⟨_, rfl⟩
          obtain ⟨Ys, hYs⟩ : ∃ Ys, Ys = bcells x.2 := ⟨_, rfl⟩
          have XY : Hid (Xs = .int .i64 (x.1 : Int) :: Ys) := Lib.hid (by rw [hXs, hYs]; rfl)
          have RX : Hid (wr.rangeAt gV (k * 65) Xs) := Lib.hid (hXs ▸ own_range RW2 (cel_range (f := rcell) (fun y hy => rcell_len (LM.out y hy).2) hx))
          have X65 : Xs.length = 65 := by rw [hXs]; exact rcell_len x64
          have Y64 : Ys.length = 64 := by rw [hYs, bcells_len]; exact x64
          have XSZ : Hid ((Tryz.prog.info? 127).map (·.size) = some Xs.toArray.size) := Lib.hid (by simp only [List.size_toArray, X65]; exact Tryz.sizeCWrite)
          have XSL : Hid ((Tryz.prog.info? 127).map (·.size) = some Xs.length) := Lib.hid (by rw [X65]; exact Tryz.sizeCWrite)
          have XS0 : Hid ((Value.int .i64 0 :: List.replicate 64 (Value.int .u8 0)).toArray.size = Xs.toArray.size) := Lib.hid (by simp only [List.size_toArray, X65]; rfl)
          have XS1 : Hid (Xs.toArray.all (·.oneCell') = true) := Lib.hid (all_oneCell_toArray (hXs ▸ rcell_one x))
          have YSL : Hid ((Tryz.prog.info? 125).map (·.size) = some Ys.length) := Lib.hid (by rw [Y64]; exact Tryz.sizeSector)
          have YSZ : Hid ((Tryz.prog.info? 125).map (·.size) = some Ys.toArray.size) := Lib.hid (by simp only [List.size_toArray, Y64]; exact Tryz.sizeSector)
          have YS1 : Hid (Ys.toArray.all (·.oneCell') = true) := Lib.hid (all_oneCell_toArray (hYs ▸ bcells_one x.2))
          obtain ⟨wv, hwv⟩ : ∃ wv, wv = wr.alloc (.cells Xs.toArray 127) := ⟨_, rfl⟩
          have gb : wv.heap[wr.heap.size]? = some (.cells Xs.toArray 127 (0, 0)) := by rw [hwv]; exact heap_alloc_new wr _
          have bv : Below wr.heap.size wr wv := by rw [hwv]; exact (Below.refl _ _).alloc (Nat.le_refl _) _
          have tcell : (wr.alloc (.cells Xs.toArray 127)).cell? ⟨wr.heap.size, 0, none⟩ = some (.int .i64 (x.1 : Int)) := by rw [← hwv, cell_of_row _ _ _ _ _ _ gb, XY.out]; rfl
          have BUV : Hid (But (FK (some ⟨gK, 0, none⟩)) w.heap.size w (wr.alloc (.cells Xs.toArray 127))) := Lib.hid (HBU2.out.alloc HBU2.out.size _)
          have RGV : Hid ((wr.alloc (.cells Xs.toArray 127)).ranges Tryz.prog 3 asIs m w.heap.size n D (fun z => left z && !z.sameKey (key (i : Int))) cnt1) := Lib.hid (HRG2.out.alloc _)
          have OWV : Hid ((wr.alloc (.cells Xs.toArray 127)).ownsRow 0 125 64 (.slice (some ⟨gK, 0, none⟩) d.s.length cK) d.s.length (kcells (KP.set i (Dk.after st b0 (l.take k))))) := Lib.hid (hwv ▸ own_below HOW2.out bv)
          have GBV := Lib.hid gb
          have HX := Lib.hid hx
          have HXs := Lib.hid hXs
          have HYs := Lib.hid hYs
          have kz : k ≤ 100000000 := by omega
          have kn : (k : Int) < (n1 : Int) := by omega
          have TK : Hid (l.take (k + 1) = l.take k ++ [x]) := Lib.hid (take_next hx)
          cases hsx : st x.1
          · exact absurd hsx (by rw [ST.out]; simp)
          · have EQ : Hid (Dk.after st b0 (l.take (k + 1)) = x.2) := Lib.hid (by rw [TK.out, Dk.after_snoc, hsx]; rfl)
            have HSX := Lib.hid hsx
            clear hsx hwv gb bv hx hXs hYs RW2 hgV hgK
            go_wp2_with (first | (refine wpList_load_mid rfl 127 (.tmp 22) rfl gV (k * 65) rfl Xs _ RX.out Tryz.underlying127 rfl XSL.out ?_) | (refine wpList_alloc_zero rfl 127 rfl Tryz.zeroCWrite ?_) | (refine wpList_store_new rfl 127 (.tmp 7) (.tmp 23) rfl _ Xs.toArray rfl rfl XSZ.out XS0.out XS1.out ?_) | (go_at_call 118; refine (flushStays_c _ _).mono ?_; rw [show true = st x.1 from by rw [ST.out]]; rw [HSX.out]; rintro e u1 ⟨rfl, rfl⟩))
            have q7 : (wr.alloc (.cells Xs.toArray 127)).heap[q]? = w.heap[q]? := BUV.out.block q qlt NFq.out
            have FROM : Hid (∀ u : World, (u.heap[q]? = w.heap[q]? ∧ u.heap[wr.heap.size]? = (wr.alloc (.cells Xs.toArray 127)).heap[wr.heap.size]?) → u.cell? ⟨q, 0, none⟩ = some (.slice (some ⟨gK, 0, none⟩) d.s.length cK) ∧ u.rangeAt wr.heap.size 1 Ys) := Lib.hid fun u ⟨e1, e2⟩ => by
              refine ⟨by simp [World.cell?, e1, R.out.cell], fun j v hv => ?_⟩
              rw [cell_of_row u wr.heap.size (1 + j) Xs.toArray 127 (0, 0) (e2.trans (heap_alloc_new wr _)), XY.out]
              simpa [Nat.add_comm 1 j] using hv
            have S0 : (wr.alloc (.cells Xs.toArray 127)).drew.heap[q]? = w.heap[q]? ∧ (wr.alloc (.cells Xs.toArray 127)).drew.heap[wr.heap.size]? = (wr.alloc (.cells Xs.toArray 127)).heap[wr.heap.size]? := ⟨q7, rfl⟩
            have TH : Hid ((wr.alloc (.cells Xs.toArray 127)).drew.there gK (i * 64) 64) := Lib.hid (own_there OWV.out (by
              have e := cel_len (f := bcells) (size := 64) (l := KP.set i (Dk.after st b0 (l.take k))) (fun b hb => kcell_len (Dk.set_secs (w := (i, Dk.after st b0 (l.take k))) HKP64.out (Dk.after_len HB64.out (fun y hy => (LM.out y (List.mem_of_mem_take hy)).2)) b hb))
              show i * 64 + 64 ≤ (kcells _).length
              rw [show kcells (KP.set i (Dk.after st b0 (l.take k))) = (KP.set i (Dk.after st b0 (l.take k))).flatMap bcells from rfl, e, List.length_set, HKPL.out]
              omega))
            clear tcell
            refine Any.begin (S := fun u => u.heap[q]? = w.heap[q]? ∧ u.heap[wr.heap.size]? = (wr.alloc (.cells Xs.toArray 127)).heap[wr.heap.size]?) (st := 8) (by kernel_rfl) ?_
            refine Any.take (st := 8) (i := 0) (v := ?_) rfl (by kernel_rfl) (by kernel_rfl) (by kernel_rfl) rfl (by kernel_rfl) (fun _ _ _ h => h) (Or.inl ⟨by rfl, ?_⟩) (by assumption) ?_
            rotate_left
            · intro u hu
              have c0 := (FROM.out u hu).1
              clear hu
              go_simp
              try rfl
            simp only [Act.put, List.setIfInBounds_toArray, List.set_cons_zero, List.set_cons_succ, List.getElem_toArray, List.getElem_cons_zero]
            refine Any.take (st := 8) (i := 1) (v := ?_) rfl (by kernel_rfl) (by kernel_rfl) (by kernel_rfl) rfl (by kernel_rfl) (fun _ _ _ h => h) (Or.inl ⟨by rfl, ?_⟩) (by assumption) ?_
            rotate_left
            · intro u hu
              have c0 := (FROM.out u hu).1
              clear hu
              go_simp
              try rfl
            simp only [Act.put, List.setIfInBounds_toArray, List.set_cons_zero, List.set_cons_succ, List.getElem_toArray, List.getElem_cons_zero, List.getElem_cons_succ]
            refine Any.take (st := 8) (i := 2) (v := ?_) rfl (by kernel_rfl) (by kernel_rfl) (by kernel_rfl) rfl (by kernel_rfl) (fun _ _ _ h => h) (Or.inl ⟨by rfl, ?_⟩) (by assumption) ?_
            rotate_left
            · intro u hu
              have c0 := (FROM.out u hu).1
              clear hu
              go_simp
              try rfl
            simp only [Act.put, List.setIfInBounds_toArray, List.set_cons_zero, List.set_cons_succ, List.getElem_toArray, List.getElem_cons_zero, List.getElem_cons_succ]
            refine Any.take (st := 8) (i := 3) (v := ?_) rfl (by kernel_rfl) (by kernel_rfl) (by kernel_rfl) rfl (by kernel_rfl) (fun _ _ _ h => h) (Or.inl ⟨by rfl, ?_⟩) (by assumption) ?_
            rotate_left
            · intro u hu
              have c0 := (FROM.out u hu).1
              clear hu
              go_simp
              try rfl
            simp only [Act.put, List.setIfInBounds_toArray, List.set_cons_zero, List.set_cons_succ, List.getElem_toArray, List.getElem_cons_zero, List.getElem_cons_succ]
            refine Any.take (st := 8) (i := 4) (v := ?_) rfl (by kernel_rfl) (by kernel_rfl) (by kernel_rfl) rfl (by kernel_rfl) (fun _ _ _ h => h) (Or.inl ⟨by rfl, ?_⟩) (by assumption) ?_
            rotate_left
            · intro u hu
              have c0 := (FROM.out u hu).1
              clear hu
              go_simp
              try rfl
            simp only [Act.put, List.setIfInBounds_toArray, List.set_cons_zero, List.set_cons_succ, List.getElem_toArray, List.getElem_cons_zero, List.getElem_cons_succ]
            refine Any.take (st := 8) (i := 5) (v := ?_) rfl (by kernel_rfl) (by kernel_rfl) (by kernel_rfl) rfl (by kernel_rfl) (fun _ _ _ h => h) (Or.inl ⟨by rfl, ?_⟩) (by assumption) ?_
            rotate_left
            · intro u hu
              have c0 := (FROM.out u hu).1
              clear hu
              go_simp
              try rfl
            simp only [Act.put, List.setIfInBounds_toArray, List.set_cons_zero, List.set_cons_succ, List.getElem_toArray, List.getElem_cons_zero, List.getElem_cons_succ]
            refine Any.take (st := 8) (i := 6) (v := .agg Ys.toArray) rfl (by kernel_rfl) (by kernel_rfl) (by kernel_rfl) rfl (by kernel_rfl) (fun _ _ _ h => h) (yieldsIf_load_mid (by rfl) 125 (.tmp 33) rfl wr.heap.size 1 rfl Ys _ (fun u hu => (FROM.out u hu).2) Tryz.underlying125 rfl YSL.out) (by assumption) ?_
            try simp only [Act.put, List.setIfInBounds_toArray, List.set_cons_zero, List.set_cons_succ, List.getElem_toArray, List.getElem_cons_zero, List.getElem_cons_succ]
            refine Any.take (st := 8) (i := 7) (v := ?_) rfl (by kernel_rfl) (by kernel_rfl) (by kernel_rfl) rfl (by kernel_rfl) (fun _ _ _ h => h) (Or.inl ⟨by rfl, ?_⟩) (by assumption) ?_
            rotate_left
            · intro u hu
              have c0 := (FROM.out u hu).1
              clear hu
              go_simp
              try rfl
            simp only [Act.put, List.setIfInBounds_toArray, List.set_cons_zero, List.set_cons_succ, List.getElem_toArray, List.getElem_cons_zero, List.getElem_cons_succ]
            refine Any.one (i := 8) (by kernel_rfl) rfl (fun K hK => ?_)
            refine step_store_mid rfl 125 _ _ rfl gK (i * 64) Ys.toArray rfl rfl (by simp only [List.size_toArray, Y64]; exact TH.out) YSZ.out YS1.out ?_
            refine hK _ _ (fun e => absurd rfl e) ?_
            clear hK K
            try simp only [Act.put]
            refine Any.done (by kernel_rfl) ?_
            have own8 : Hid (((wr.alloc (.cells Xs.toArray 127)).drew.setCells gK (i * 64) Ys.toArray.toList).ownsRow 0 125 64 (.slice (some ⟨gK, 0, none⟩) d.s.length cK) d.s.length (kcells (KP.set i x.2))) := Lib.hid (by
              have a64 : (Dk.after st b0 (l.take k)).length = 64 := Dk.after_len HB64.out (fun y hy => (LM.out y (List.mem_of_mem_take hy)).2)
              have s64 : ∀ b ∈ KP.set i (Dk.after st b0 (l.take k)), (bcells b).length = 64 := fun b hb => kcell_len (Dk.set_secs (w := (i, Dk.after st b0 (l.take k))) HKP64.out a64 b hb)
              have fl := cel_len (f := bcells) s64
              have sp := cel_splice (f := bcells) s64 (k := i) (by rw [List.length_set, HKPL.out]; exact hi) (x := x.2) (by rw [← HYs.out]; exact Y64)
              rw [List.set_set] at sp
              have o := own_setCells (o := i * 64) (vs := Ys) (show (wr.alloc (.cells Xs.toArray 127)).drew.ownsRow 0 125 64 _ _ _ from OWV.out) (by
                rw [show kcells (KP.set i (Dk.after st b0 (l.take k))) = (KP.set i (Dk.after st b0 (l.take k))).flatMap bcells from rfl, fl, List.length_set, HKPL.out, Y64]
                omega)
              rw [List.toList_toArray]
              show _
              rw [show kcells (KP.set i x.2) = (KP.set i x.2).flatMap bcells from rfl, sp, ← HYs.out]
              exact o)
            have gr := grown_setCells gK Ys.toArray.toList (i * 64) (wr.alloc (.cells Xs.toArray 127)).drew
            have BU8 : Hid (But (FK (some ⟨gK, 0, none⟩)) w.heap.size w ((wr.alloc (.cells Xs.toArray 127)).drew.setCells gK (i * 64) Ys.toArray.toList)) := Lib.hid (BUV.out.drew.grown gr BUV.out.size (fun k e => by injection e with e; exact .inl ⟨_, rfl, e.symm⟩))
            have RG8 : Hid (((wr.alloc (.cells Xs.toArray 127)).drew.setCells gK (i * 64) Ys.toArray.toList).ranges Tryz.prog 3 asIs m w.heap.size n D (fun z => left z && !z.sameKey (key (i : Int))) cnt1) := Lib.hid (World.ranges.kept (w := (wr.alloc (.cells Xs.toArray 127)).drew) RGV.out gr (fun e => MG.out (by injection e)) (fun e => RG.out (by injection e)))
            clear gr S0 q7 X65 Y64
            go_wp2
            go_roundw
            case rel => exact ⟨k + 1, by go_num, by omega, RG8.out, by rw [EQ.out]; exact own8.out, BU8.out⟩
            case measure => simp [intOf]; omega
        · obtain rfl : k = n1 := by omega
          go_wp2
          go_roundw
          case rel =>
            refine ⟨_, cnt1, HRG2.out, fun kl h => HLH.out kl (by simp only [Bool.and_eq_true] at h; exact h.1), ?_, HBU2.out⟩
            have o := HOW2.out
            rw [List.take_of_length_le (by rw [← HEN.out]; exact Nat.le_refl _), KPE.out] at o
            exact o
          case measure =>
            rw [HRG2.out.left_eq, HRG.out.left_eq]
            exact HLT.out

set_option maxHeartbeats 1000000 in
theorem crashStays_c {w : World} {A : Option Addr} {n c bx : Nat} {ks : List Bool} {B : Nat} {t0 : TypeId} (hb : w.cell? ⟨bx, 0, none⟩ = some (.slice A n c)) (hL : Lies w B t0 A (ks.map Value.bool)) (hn : n = ks.length) (_hs : n ≤ 1000000000) (t : Nat) :
    Calls Tryz.prog 53 #[.int .i64 (t : Int), .pointer (some ⟨bx, 0, none⟩)] w fun e w' => e = .returned (.bool (ks.getD t false)) ∧ w = w' := by
  by_cases h : t < n
  · obtain ⟨ad, rfl, hc⟩ := hL.at_ (k := t) (by simp; omega)
    rw [List.getElem_map] at hc
    have hv : ks.getD t false = ks[t] := by rw [List.getD_eq_getElem?_getD, List.getElem?_eq_getElem (by omega)]; rfl
    rw [← hv] at hc
    obtain ⟨b, hbb⟩ : ∃ b, b = ks.getD t false := ⟨_, rfl⟩
    rw [← hbb] at hc ⊢
    have ht : (t : Int) < (n : Int) := by omega
    clear hv hL hbb
    go_enter Tryz.func53, Tryz.ntmps53
    go_wp2
    go_ret
    exact ⟨rfl, rfl⟩
  · have hv : ks.getD t false = false := by rw [List.getD_eq_getElem?_getD, List.getElem?_eq_none (by omega)]; rfl
    rw [hv]
    have ht : ¬ (t : Int) < (n : Int) := by omega
    clear hv hL
    go_enter Tryz.func53, Tryz.ntmps53
    go_wp2
    go_ret
    exact ⟨ret_bool (by simp), rfl⟩

set_option maxHeartbeats 16000000 in
set_option maxRecDepth 100000 in
theorem cdSettleC_c {w : World} {G : Nat → Prop} {q : Nat} {d : Dk.D} (h : CD w G q d) (hd : d.ok) (hcl : d.cache.length ≤ 100000000) {AX : Option Addr} {nX cX bx : Nat} {ks : List Bool} {BK : Nat} {tK : TypeId} (hbx : w.cell? ⟨bx, 0, none⟩ = some (.slice AX nX cX)) (hbG : ¬ G bx) (hbl : bx < w.heap.size) (hK : Lies w BK tK AX (ks.map Value.bool)) (hKG : ks.map Value.bool ≠ [] → InF (fun k => ¬ G k ∧ k < w.heap.size) AX) (hkn : nX = ks.length) (hns : nX ≤ 1000000000) :
    Calls Tryz.prog 52 #[.pointer (some ⟨q, 0, none⟩), .func (.func 53) #[] #[.pointer (some ⟨bx, 0, none⟩)]] w (CdOk0 G q { d with s := Dk.keepBy (fun t => ks.getD t false) 0 d.s d.cache, cache := [] } w) := by
  obtain ⟨st, hst⟩ : ∃ st : Nat → Bool, st = (fun t => ks.getD t false) := ⟨_, rfl⟩
  rw [← hst]
  have ST := Lib.hid hst
  obtain ⟨AK, cK, m, AF, cF, lf, D, n, V, r, e⟩ := h
  obtain ⟨_, c1, _, _, _, _, _⟩ := r.fields
  have R := Lib.hid r
  have E := Lib.hid e
  have HD := Lib.hid hd
  have qlt := lt_of_block r.cell
  have mlt := r.map.lt
  have hf4 := hd.few
  have KL := Maps.int_keyed (P := Tryz.prog) (k := 3) Tryz.underlying3
  have MAP := r.map
  have NFq : Hid (¬ FK AK q) := Lib.hid fun ⟨a, e, eq⟩ => by
    obtain ⟨_, cs, fr, hb⟩ := own_row r.k a.block (by rw [e]; rfl)
    exact blk_ne r.cell hb (by decide) eq
  have NFm : Hid (¬ FK AK m) := Lib.hid fun ⟨a, e, eq⟩ => by
    obtain ⟨_, cs, fr, hb⟩ := own_row r.k a.block (by rw [e]; rfl)
    exact map_ne r.map hb eq
  have GFK : Hid (∀ k, FK AK k → G k) := Lib.hid fun k ⟨a, e, eq⟩ => eq ▸ r.kF a e
  have SC : Hid (∀ (t : Nat) (u : World), But (FK AK) w.heap.size w u → Calls Tryz.prog 53 #[.int .i64 (t : Int), .pointer (some ⟨bx, 0, none⟩)] u fun e u' => e = .returned (.bool (st t)) ∧ u = u') := Lib.hid fun t u hu => by
    rw [hst]
    exact crashStays_c ((World.cell?_of_block (hu.block bx hbl (fun g => hbG (GFK.out bx g)))).trans hbx) (hK.but (fun h0 ad e => ⟨fun g => (hKG h0 ad e).1 (GFK.out _ g), (hKG h0 ad e).2⟩) hu) hkn hns t
  clear hbx hbG hbl hK hKG hkn hns
  clear r e hd hst
  go_enter Tryz.func52, Tryz.ntmps52
  go_wp2_with (first | (at_range; refine wpList_range_own _ rfl (.tmp 11) 79 rfl 3 _ KL Tryz.underlying79 asIs m n D rfl MAP ?_; intro w0 hrg0 hg0 hs0) | fail)
  go_frame
  have B0 : Below w.heap.size w w0 := (Below.refl _ _).grown hg0 (Nat.le_refl _) (fun k e => by cases e)
  have HRG0 := Lib.hid hrg0
  have HB0 := Lib.hid B0
  clear hrg0 hg0 hs0 B0 MAP
  go_loopw [4] (fun _ wr => ∃ (left : Lit → Bool) (cnt : Nat), wr.ranges Tryz.prog 3 asIs m w.heap.size n D left cnt ∧ (∀ kl, left kl = true → Maps.has D kl = true) ∧ wr.ownsRow 0 125 64 (.slice AK d.s.length cK) d.s.length (kcells (Dk.kept st d.s d.cache (fun i => left (key (i : Int))))) ∧ But (FK AK) w.heap.size w wr) (fun _ wr => wr.rangeLeft m w.heap.size)
  case atStart =>
    refine ⟨_, _, HRG0.out, fun _ h => h, ?_, But.of_below HB0.out _⟩
    rw [Dk.kept_start]
    · exact own_below R.out.k HB0.out
    · intro i hi hl
      rw [R.out.has i hi] at hl
      simpa using hl
  case round =>
    obtain ⟨left, cnt, hrg, hlh, hown, hbut⟩ := hrel
    have HRG := Lib.hid hrg
    have HLH := Lib.hid hlh
    have HOW := Lib.hid hown
    have HBU := Lib.hid hbut
    clear hlh hown hbut
    go_wp2_with (at_next; refine wpList_next_ranges _ rfl (.tmp 12) rfl 3 KL asIs (Value.int .i64) (fun s : Option Addr × Nat × Nat => Value.slice s.1 s.2.1 s.2.2) (fun key kl hk => by obtain ⟨x, e, _⟩ := Maps.keyOf_int_inv Tryz.underlying3 hk; exact ⟨x, e⟩) (fun v y hv => by obtain ⟨s, e, _⟩ := asIs_inv hv; exact ⟨s, e⟩) m w.heap.size n D _ _ rfl hrg ?_ ?_)
    · intro hc0 hl0
      have KE : Hid (Dk.kept st d.s d.cache (fun i => left (key (i : Int))) = Dk.keepBy st 0 d.s d.cache) := Lib.hid (Dk.kept_end fun i => hl0 _)
      have c1' : wr.cell? ⟨q, 1, none⟩ = some (.map (some m)) := (World.cell?_of_block (HBU.out.block q qlt NFq.out)).trans c1
      obtain ⟨w9, hrun9, hmap9, hg9⟩ := map_clear_any HRG.out.owns Tryz.underlying79
      have q9 := (hg9.block q (Nat.lt_of_lt_of_le qlt HBU.out.size) (fun e => map_ne R.out.map R.out.cell (by injection e with e; exact e.symm))).trans ((HBU.out.block q qlt NFq.out).trans R.out.cell)
      have f9 := blk_free q9 2
      have c9 : w9.cell? ⟨q, 2, none⟩ = some (.int .i64 (d.cache.length : Int)) := by simp [World.cell?, q9]
      have k9 : Hid (w9.ownsRow 0 125 64 (.slice AK d.s.length cK) d.s.length (kcells (Dk.keepBy st 0 d.s d.cache))) := Lib.hid (by
        have o := HOW.out
        rw [KE.out] at o
        exact own_keep o fun k hk => hg9.block k (o.lt k hk).2 (fun e => by
          injection e with e
          obtain ⟨_, cs, fr, hb⟩ := own_row o k hk
          exact map_ne HRG.out.owns hb e.symm))
      have b9 : Hid (w9.ownsRow 0 4 1 (.slice AF d.bad.length cF) d.bad.length (d.bad.map Value.bool)) := Lib.hid (own_keep R.out.f fun k hk => by
        obtain ⟨_, cs, fr, hb⟩ := own_row R.out.f k hk
        refine (hg9.block k (Nat.lt_of_lt_of_le (lt_of_block hb) HBU.out.size) (fun e => by injection e with e; exact map_ne R.out.map hb e.symm)).trans (HBU.out.block k (lt_of_block hb) ?_)
        rintro ⟨a, e, eq⟩
        obtain ⟨_, cs2, fr2, hb2⟩ := own_row R.out.k a.block (by rw [e]; rfl)
        exact blk_ne hb hb2 (by decide) eq)
      have Q9 := Lib.hid q9
      have M9 := Lib.hid hmap9
      have G9 := Lib.hid (But.grown (F := G) (HBU.out.mono (Nat.le_refl _) GFK.out) hg9 HBU.out.size (fun k e => by injection e with e; subst e; exact .inl R.out.mF))
      clear hc0 hl0 hrg hmap9 hg9 q9 KL mlt qlt hf4 hcl
      go_wp2_with (refine wpList_clear_run rfl (.tmp 40) 79 rfl _ rfl (hrun9 _) ?_)
      go_end0
      refine ⟨rfl, ⟨AK, cK, m, AF, cF, lf, .map [], 0, fun _ => (none, 0), CD6.settled R.out (Dk.keepBy_len _ _ _ _) ?_ (own_off k9.out Q9.out (by decide) set_off) (map_keep M9.out (set_off m (map_ne M9.out Q9.out))) (own_off b9.out Q9.out (by decide) set_off) (fun k g => .inl g), E.out⟩, G9.out.setCell (.inl R.out.fp) _⟩
      rw [blk_set Q9.out]; rfl
    · intro x A1 n1 k1 kl y1 y2 w1 cnt1 hkey hlk hv hat hrg1 hlt hg1 hs1 hen
      obtain ⟨i, hi, hki⟩ := R.out.keys kl (HLH.out kl hlk)
      obtain ⟨x', ex, ekl, _⟩ := Maps.keyOf_int_inv Tryz.underlying3 hkey
      injection ex with _ ex
      subst ex
      obtain rfl : x = (i : Int) := by rw [hki] at ekl; unfold key at ekl; injection ekl with _ ekl; exact ekl.symm
      have hy1 : y1 = .held (.slice A1 n1 k1) := by
        have q1 := hv
        unfold asIs at q1
        injection q1 with q1
        injection q1 with q1 _
        exact q1.symm
      have hat2 := (hat (.held (.slice none 0 0))).symm.trans ((congrArg (fun z => D.atKey z (.held (.slice none 0 0))) hki).trans (R.out.look i hi))
      rw [hy1] at hat2
      injection hat2 with hat2
      injection hat2 with eA en ek
      subst hki
      obtain ⟨l, hl⟩ : ∃ l, l = Dk.wts d.cache i := ⟨_, rfl⟩
      rw [← hl] at en
      have RW : w.ownsRow 0 127 65 (.slice A1 n1 k1) n1 (rcells l) := by
        have q1 := R.out.row i hi
        rw [← hl, ← en, ← eA, ← ek] at q1
        exact q1
      have hwl : n1 ≤ 100000000 := by rw [en, hl]; exact Nat.le_trans (Dk.wts_len _ _) hcl
      obtain ⟨gK, capK, hAK, _, hgK⟩ := R.out.k.form (by omega)
      injection hAK with hAK _ hcK
      subst hcK
      subst hAK
      obtain ⟨b0, hb0⟩ : ∃ b0, b0 = d.s.getD i [] := ⟨_, rfl⟩
      obtain ⟨KP, hKP⟩ : ∃ KP, KP = Dk.kept st d.s d.cache (fun i => left (key (i : Int))) := ⟨_, rfl⟩
      have LM : Hid (∀ x ∈ l, x.1 < d.cache.length ∧ x.2.length = 64) := Lib.hid fun x hx => by
        rw [hl] at hx
        exact ⟨(Dk.wts_mem hx).1, (HD.out.at_ _ (Dk.wts_mem hx).2).2⟩
      have b64 : b0.length = 64 := by rw [hb0]; exact HD.out.secs _ (List.mem_of_getElem? (Dk.getD_at hi))
      have KP64 : ∀ b ∈ KP, b.length = 64 := by rw [hKP]; exact Dk.kept_secs HD.out.secs (fun w hw => (HD.out.at_ w hw).2)
      have KPL : KP.length = d.s.length := by rw [hKP]; exact Dk.kept_len _ _ _ _
      have KP0 : KP.set i b0 = KP := by
        apply List.ext_getElem?
        intro j
        by_cases e : i = j
        · subst e
          rw [List.getElem?_set_self (by omega), hKP, Dk.kept_at hi, if_pos hlk, hb0]
        · rw [List.getElem?_set_ne e]
      have KPE : Hid (KP.set i (Dk.after st b0 l) = Dk.kept st d.s d.cache (fun j => (left (key (j : Int)) && !(key (j : Int)).sameKey (key (i : Int))))) := Lib.hid (by
        rw [hKP, hb0, hl]
        refine Dk.kept_step fun j => ?_
        rw [key_same]
        by_cases e : j = i
        · subst e; simp
        · have e2 : ¬ (j : Int) = (i : Int) := by omega
          simp [e, e2])
      have OW1 : Hid (w1.ownsRow 0 125 64 (.slice (some ⟨gK, 0, none⟩) d.s.length cK) d.s.length (kcells (KP.set i (Dk.after st b0 (l.take 0))))) := Lib.hid (by
        show w1.ownsRow 0 _ 64 _ _ (kcells (KP.set i b0))
        rw [KP0, hKP]
        refine own_keep HOW.out fun k hk => hg1.block k (HOW.out.lt k hk).2 (fun e => ?_)
        injection e with e
        obtain ⟨_, cs, fr, hb⟩ := own_row HOW.out k hk
        have h1 := HRG.out.lt
        have h2 : k < w.heap.size := by
          have : (Value.slice (some (⟨gK, 0, none⟩ : Addr)) d.s.length cK).ownBlock = some k := hk
          exact (R.out.k.lt k this).2
        omega)
      have BU1 : Hid (But (FK (some ⟨gK, 0, none⟩)) w.heap.size w w1) := Lib.hid (HBU.out.grown hg1 HBU.out.size (fun k e => by injection e with e; subst e; exact .inr (Nat.le_refl _)))
      have HRG1 := Lib.hid hrg1
      have MG : Hid (m ≠ gK) := Lib.hid fun e => NFm.out ⟨_, rfl, e⟩
      have RG : Hid (w.heap.size ≠ gK) := Lib.hid (by omega)
      have HEN := Lib.hid en
      have HKP64 := Lib.hid KP64
      have HKPL := Lib.hid KPL
      have HB64 := Lib.hid b64
      have HRW := Lib.hid RW
      have HLT := Lib.hid hlt
      have qgK : Hid (q ≠ gK) := Lib.hid fun e => NFq.out ⟨_, rfl, e⟩
      have i0 : (i : Int) < (d.s.length : Int) := by omega
      have hlt2 := hlt
      clear hkey hv hat hg1 hs1 eA en ek hl hlk hb0 hKP KP0 KPL KP64 b64 RW hrg1 hlt hrg
      go_wp2_with fail
      go_loopw [20] (fun u wr2 => ∃ k : Nat, u = .int .i64 k ∧ k ≤ n1 ∧ wr2.ranges Tryz.prog 3 asIs m w.heap.size n D (fun z => left z && !z.sameKey (key (i : Int))) cnt1 ∧ wr2.ownsRow 0 125 64 (.slice (some ⟨gK, 0, none⟩) d.s.length cK) d.s.length (kcells (KP.set i (Dk.after st b0 (l.take k)))) ∧ But (FK (some ⟨gK, 0, none⟩)) w.heap.size w wr2) (fun u _ => n1 - (intOf u).toNat)
      case atStart => exact ⟨0, rfl, Nat.zero_le _, HRG1.out, OW1.out, BU1.out⟩
      case round =>
        obtain ⟨k, rfl, hk, hrg2, hown2, hbut2⟩ := hrel
        have HRG2 := Lib.hid hrg2
        have HOW2 := Lib.hid hown2
        have HBU2 := Lib.hid hbut2
        clear hrg2 hown2 hbut2
        by_cases hkn : k < n1
        · obtain ⟨x, hx⟩ : ∃ x, l[k]? = some x := ⟨_, List.getElem?_eq_getElem (by rw [← HEN.out]; exact hkn)⟩
          obtain ⟨xlt, x64⟩ := LM.out x (List.mem_of_getElem? hx)
          have RW2 : wr.ownsRow 0 127 65 (.slice A1 n1 k1) n1 (rcells l) := own_keep HRW.out fun g hg => by
            obtain ⟨_, cs, fr, hb⟩ := own_row HRW.out g hg
            refine HBU2.out.block g (lt_of_block hb) ?_
            rintro ⟨a, e, eq⟩
            obtain ⟨_, cs2, fr2, hb2⟩ := own_row R.out.k a.block (by rw [e]; rfl)
            exact blk_ne hb hb2 (by decide) eq
          obtain ⟨gV, capV, hAV, _, hgV⟩ := RW2.form (by omega)
          injection hAV with hAV _ hcV
          subst hcV
          subst hAV
          obtain ⟨Xs, hXs⟩ : ∃ Xs, Xs = rcell x := ⟨_, rfl⟩
          obtain ⟨Ys, hYs⟩ : ∃ Ys, Ys = bcells x.2 := ⟨_, rfl⟩
          have XY : Hid (Xs = .int .i64 (x.1 : Int) :: Ys) := Lib.hid (by rw [hXs, hYs]; rfl)
          have RX : Hid (wr.rangeAt gV (k * 65) Xs) := Lib.hid (hXs ▸ own_range RW2 (cel_range (f := rcell) (fun y hy => rcell_len (LM.out y hy).2) hx))
          have X65 : Xs.length = 65 := by rw [hXs]; exact rcell_len x64
          have Y64 : Ys.length = 64 := by rw [hYs, bcells_len]; exact x64
          have XSZ : Hid ((Tryz.prog.info? 127).map (·.size) = some Xs.toArray.size) := Lib.hid (by simp only [List.size_toArray, X65]; exact Tryz.sizeCWrite)
          have XSL : Hid ((Tryz.prog.info? 127).map (·.size) = some Xs.length) := Lib.hid (by rw [X65]; exact Tryz.sizeCWrite)
          have XS0 : Hid ((Value.int .i64 0 :: List.replicate 64 (Value.int .u8 0)).toArray.size = Xs.toArray.size) := Lib.hid (by simp only [List.size_toArray, X65]; rfl)
          have XS1 : Hid (Xs.toArray.all (·.oneCell') = true) := Lib.hid (all_oneCell_toArray (hXs ▸ rcell_one x))
          have YSL : Hid ((Tryz.prog.info? 125).map (·.size) = some Ys.length) := Lib.hid (by rw [Y64]; exact Tryz.sizeSector)
          have YSZ : Hid ((Tryz.prog.info? 125).map (·.size) = some Ys.toArray.size) := Lib.hid (by simp only [List.size_toArray, Y64]; exact Tryz.sizeSector)
          have YS1 : Hid (Ys.toArray.all (·.oneCell') = true) := Lib.hid (all_oneCell_toArray (hYs ▸ bcells_one x.2))
          obtain ⟨wv, hwv⟩ : ∃ wv, wv = wr.alloc (.cells Xs.toArray 127) := ⟨_, rfl⟩
          have gb : wv.heap[wr.heap.size]? = some (.cells Xs.toArray 127 (0, 0)) := by rw [hwv]; exact heap_alloc_new wr _
          have bv : Below wr.heap.size wr wv := by rw [hwv]; exact (Below.refl _ _).alloc (Nat.le_refl _) _
          have tcell : (wr.alloc (.cells Xs.toArray 127)).cell? ⟨wr.heap.size, 0, none⟩ = some (.int .i64 (x.1 : Int)) := by rw [← hwv, cell_of_row _ _ _ _ _ _ gb, XY.out]; rfl
          have BUV : Hid (But (FK (some ⟨gK, 0, none⟩)) w.heap.size w (wr.alloc (.cells Xs.toArray 127))) := Lib.hid (HBU2.out.alloc HBU2.out.size _)
          have RGV : Hid ((wr.alloc (.cells Xs.toArray 127)).ranges Tryz.prog 3 asIs m w.heap.size n D (fun z => left z && !z.sameKey (key (i : Int))) cnt1) := Lib.hid (HRG2.out.alloc _)
          have OWV : Hid ((wr.alloc (.cells Xs.toArray 127)).ownsRow 0 125 64 (.slice (some ⟨gK, 0, none⟩) d.s.length cK) d.s.length (kcells (KP.set i (Dk.after st b0 (l.take k))))) := Lib.hid (hwv ▸ own_below HOW2.out bv)
          have GBV := Lib.hid gb
          have HX := Lib.hid hx
          have HXs := Lib.hid hXs
          have HYs := Lib.hid hYs
          have kz : k ≤ 100000000 := by omega
          have kn : (k : Int) < (n1 : Int) := by omega
          have TK : Hid (l.take (k + 1) = l.take k ++ [x]) := Lib.hid (take_next hx)
          cases hsx : st x.1
          · have EQ : Hid (Dk.after st b0 (l.take (k + 1)) = Dk.after st b0 (l.take k)) := Lib.hid (by rw [TK.out, Dk.after_snoc, hsx]; rfl)
            have HSX := Lib.hid hsx
            clear hsx hwv gb bv hx hXs hYs RW2 hgV hgK
            go_wp2_with (first | (refine wpList_load_mid rfl 127 (.tmp 22) rfl gV (k * 65) rfl Xs _ RX.out Tryz.underlying127 rfl XSL.out ?_) | (refine wpList_alloc_zero rfl 127 rfl Tryz.zeroCWrite ?_) | (refine wpList_store_new rfl 127 (.tmp 7) (.tmp 23) rfl _ Xs.toArray rfl rfl XSZ.out XS0.out XS1.out ?_) | (go_at_call 53; refine (SC.out x.1 _ BUV.out).mono ?_; rw [HSX.out]; rintro e u1 ⟨rfl, rfl⟩))
            go_wp2
            go_roundw
            case rel => exact ⟨k + 1, by go_num, by omega, RGV.out, by rw [EQ.out]; exact OWV.out, BUV.out⟩
            case measure => simp [intOf]; omega
          · have EQ : Hid (Dk.after st b0 (l.take (k + 1)) = x.2) := Lib.hid (by rw [TK.out, Dk.after_snoc, hsx]; rfl)
            have HSX := Lib.hid hsx
            clear hsx hwv gb bv hx hXs hYs RW2 hgV hgK
            go_wp2_with (first | (refine wpList_load_mid rfl 127 (.tmp 22) rfl gV (k * 65) rfl Xs _ RX.out Tryz.underlying127 rfl XSL.out ?_) | (refine wpList_alloc_zero rfl 127 rfl Tryz.zeroCWrite ?_) | (refine wpList_store_new rfl 127 (.tmp 7) (.tmp 23) rfl _ Xs.toArray rfl rfl XSZ.out XS0.out XS1.out ?_) | (go_at_call 53; refine (SC.out x.1 _ BUV.out).mono ?_; rw [HSX.out]; rintro e u1 ⟨rfl, rfl⟩))
            have q7 : (wr.alloc (.cells Xs.toArray 127)).heap[q]? = w.heap[q]? := BUV.out.block q qlt NFq.out
            have FROM : Hid (∀ u : World, (u.heap[q]? = w.heap[q]? ∧ u.heap[wr.heap.size]? = (wr.alloc (.cells Xs.toArray 127)).heap[wr.heap.size]?) → u.cell? ⟨q, 0, none⟩ = some (.slice (some ⟨gK, 0, none⟩) d.s.length cK) ∧ u.rangeAt wr.heap.size 1 Ys) := Lib.hid fun u ⟨e1, e2⟩ => by
              refine ⟨by simp [World.cell?, e1, R.out.cell], fun j v hv => ?_⟩
              rw [cell_of_row u wr.heap.size (1 + j) Xs.toArray 127 (0, 0) (e2.trans (heap_alloc_new wr _)), XY.out]
              simpa [Nat.add_comm 1 j] using hv
            have S0 : (wr.alloc (.cells Xs.toArray 127)).drew.heap[q]? = w.heap[q]? ∧ (wr.alloc (.cells Xs.toArray 127)).drew.heap[wr.heap.size]? = (wr.alloc (.cells Xs.toArray 127)).heap[wr.heap.size]? := ⟨q7, rfl⟩
            have TH : Hid ((wr.alloc (.cells Xs.toArray 127)).drew.there gK (i * 64) 64) := Lib.hid (own_there OWV.out (by
              have e := cel_len (f := bcells) (size := 64) (l := KP.set i (Dk.after st b0 (l.take k))) (fun b hb => kcell_len (Dk.set_secs (w := (i, Dk.after st b0 (l.take k))) HKP64.out (Dk.after_len HB64.out (fun y hy => (LM.out y (List.mem_of_mem_take hy)).2)) b hb))
              show i * 64 + 64 ≤ (kcells _).length
              rw [show kcells (KP.set i (Dk.after st b0 (l.take k))) = (KP.set i (Dk.after st b0 (l.take k))).flatMap bcells from rfl, e, List.length_set, HKPL.out]
              omega))
            clear tcell
            refine Any.begin (S := fun u => u.heap[q]? = w.heap[q]? ∧ u.heap[wr.heap.size]? = (wr.alloc (.cells Xs.toArray 127)).heap[wr.heap.size]?) (st := 8) (by kernel_rfl) ?_
            refine Any.take (st := 8) (i := 0) (v := ?_) rfl (by kernel_rfl) (by kernel_rfl) (by kernel_rfl) rfl (by kernel_rfl) (fun _ _ _ h => h) (Or.inl ⟨by rfl, ?_⟩) (by assumption) ?_
            rotate_left
            · intro u hu
              have c0 := (FROM.out u hu).1
              clear hu
              go_simp
              try rfl
            simp only [Act.put, List.setIfInBounds_toArray, List.set_cons_zero, List.set_cons_succ, List.getElem_toArray, List.getElem_cons_zero]
            refine Any.take (st := 8) (i := 1) (v := ?_) rfl (by kernel_rfl) (by kernel_rfl) (by kernel_rfl) rfl (by kernel_rfl) (fun _ _ _ h => h) (Or.inl ⟨by rfl, ?_⟩) (by assumption) ?_
            rotate_left
            · intro u hu
              have c0 := (FROM.out u hu).1
              clear hu
              go_simp
              try rfl
            simp only [Act.put, List.setIfInBounds_toArray, List.set_cons_zero, List.set_cons_succ, List.getElem_toArray, List.getElem_cons_zero, List.getElem_cons_succ]
            refine Any.take (st := 8) (i := 2) (v := ?_) rfl (by kernel_rfl) (by kernel_rfl) (by kernel_rfl) rfl (by kernel_rfl) (fun _ _ _ h => h) (Or.inl ⟨by rfl, ?_⟩) (by assumption) ?_
            rotate_left
            · intro u hu
              have c0 := (FROM.out u hu).1
              clear hu
              go_simp
              try rfl
            simp only [Act.put, List.setIfInBounds_toArray, List.set_cons_zero, List.set_cons_succ, List.getElem_toArray, List.getElem_cons_zero, List.getElem_cons_succ]
            refine Any.take (st := 8) (i := 3) (v := ?_) rfl (by kernel_rfl) (by kernel_rfl) (by kernel_rfl) rfl (by kernel_rfl) (fun _ _ _ h => h) (Or.inl ⟨by rfl, ?_⟩) (by assumption) ?_
            rotate_left
            · intro u hu
              have c0 := (FROM.out u hu).1
              clear hu
              go_simp
              try rfl
            simp only [Act.put, List.setIfInBounds_toArray, List.set_cons_zero, List.set_cons_succ, List.getElem_toArray, List.getElem_cons_zero, List.getElem_cons_succ]
            refine Any.take (st := 8) (i := 4) (v := ?_) rfl (by kernel_rfl) (by kernel_rfl) (by kernel_rfl) rfl (by kernel_rfl) (fun _ _ _ h => h) (Or.inl ⟨by rfl, ?_⟩) (by assumption) ?_
            rotate_left
            · intro u hu
              have c0 := (FROM.out u hu).1
              clear hu
              go_simp
              try rfl
            simp only [Act.put, List.setIfInBounds_toArray, List.set_cons_zero, List.set_cons_succ, List.getElem_toArray, List.getElem_cons_zero, List.getElem_cons_succ]
            refine Any.take (st := 8) (i := 5) (v := ?_) rfl (by kernel_rfl) (by kernel_rfl) (by kernel_rfl) rfl (by kernel_rfl) (fun _ _ _ h => h) (Or.inl ⟨by rfl, ?_⟩) (by assumption) ?_
            rotate_left
            · intro u hu
              have c0 := (FROM.out u hu).1
              clear hu
              go_simp
              try rfl
            simp only [Act.put, List.setIfInBounds_toArray, List.set_cons_zero, List.set_cons_succ, List.getElem_toArray, List.getElem_cons_zero, List.getElem_cons_succ]
            refine Any.take (st := 8) (i := 6) (v := .agg Ys.toArray) rfl (by kernel_rfl) (by kernel_rfl) (by kernel_rfl) rfl (by kernel_rfl) (fun _ _ _ h => h) (yieldsIf_load_mid (by rfl) 125 (.tmp 33) rfl wr.heap.size 1 rfl Ys _ (fun u hu => (FROM.out u hu).2) Tryz.underlying125 rfl YSL.out) (by assumption) ?_
            try simp only [Act.put, List.setIfInBounds_toArray, List.set_cons_zero, List.set_cons_succ, List.getElem_toArray, List.getElem_cons_zero, List.getElem_cons_succ]
            refine Any.take (st := 8) (i := 7) (v := ?_) rfl (by kernel_rfl) (by kernel_rfl) (by kernel_rfl) rfl (by kernel_rfl) (fun _ _ _ h => h) (Or.inl ⟨by rfl, ?_⟩) (by assumption) ?_
            rotate_left
            · intro u hu
              have c0 := (FROM.out u hu).1
              clear hu
              go_simp
              try rfl
            simp only [Act.put, List.setIfInBounds_toArray, List.set_cons_zero, List.set_cons_succ, List.getElem_toArray, List.getElem_cons_zero, List.getElem_cons_succ]
            refine Any.one (i := 8) (by kernel_rfl) rfl (fun K hK => ?_)
            refine step_store_mid rfl 125 _ _ rfl gK (i * 64) Ys.toArray rfl rfl (by simp only [List.size_toArray, Y64]; exact TH.out) YSZ.out YS1.out ?_
            refine hK _ _ (fun e => absurd rfl e) ?_
            clear hK K
            try simp only [Act.put]
            refine Any.done (by kernel_rfl) ?_
            have own8 : Hid (((wr.alloc (.cells Xs.toArray 127)).drew.setCells gK (i * 64) Ys.toArray.toList).ownsRow 0 125 64 (.slice (some ⟨gK, 0, none⟩) d.s.length cK) d.s.length (kcells (KP.set i x.2))) := Lib.hid (by
              have a64 : (Dk.after st b0 (l.take k)).length = 64 := Dk.after_len HB64.out (fun y hy => (LM.out y (List.mem_of_mem_take hy)).2)
              have s64 : ∀ b ∈ KP.set i (Dk.after st b0 (l.take k)), (bcells b).length = 64 := fun b hb => kcell_len (Dk.set_secs (w := (i, Dk.after st b0 (l.take k))) HKP64.out a64 b hb)
              have fl := cel_len (f := bcells) s64
              have sp := cel_splice (f := bcells) s64 (k := i) (by rw [List.length_set, HKPL.out]; exact hi) (x := x.2) (by rw [← HYs.out]; exact Y64)
              rw [List.set_set] at sp
              have o := own_setCells (o := i * 64) (vs := Ys) (show (wr.alloc (.cells Xs.toArray 127)).drew.ownsRow 0 125 64 _ _ _ from OWV.out) (by
                rw [show kcells (KP.set i (Dk.after st b0 (l.take k))) = (KP.set i (Dk.after st b0 (l.take k))).flatMap bcells from rfl, fl, List.length_set, HKPL.out, Y64]
                omega)
              rw [List.toList_toArray]
              show _
              rw [show kcells (KP.set i x.2) = (KP.set i x.2).flatMap bcells from rfl, sp, ← HYs.out]
              exact o)
            have gr := grown_setCells gK Ys.toArray.toList (i * 64) (wr.alloc (.cells Xs.toArray 127)).drew
            have BU8 : Hid (But (FK (some ⟨gK, 0, none⟩)) w.heap.size w ((wr.alloc (.cells Xs.toArray 127)).drew.setCells gK (i * 64) Ys.toArray.toList)) := Lib.hid (BUV.out.drew.grown gr BUV.out.size (fun k e => by injection e with e; exact .inl ⟨_, rfl, e.symm⟩))
            have RG8 : Hid (((wr.alloc (.cells Xs.toArray 127)).drew.setCells gK (i * 64) Ys.toArray.toList).ranges Tryz.prog 3 asIs m w.heap.size n D (fun z => left z && !z.sameKey (key (i : Int))) cnt1) := Lib.hid (World.ranges.kept (w := (wr.alloc (.cells Xs.toArray 127)).drew) RGV.out gr (fun e => MG.out (by injection e)) (fun e => RG.out (by injection e)))
            clear gr S0 q7 X65 Y64
            go_wp2
            go_roundw
            case rel => exact ⟨k + 1, by go_num, by omega, RG8.out, by rw [EQ.out]; exact own8.out, BU8.out⟩
            case measure => simp [intOf]; omega
        · obtain rfl : k = n1 := by omega
          go_wp2
          go_roundw
          case rel =>
            refine ⟨_, cnt1, HRG2.out, fun kl h => HLH.out kl (by simp only [Bool.and_eq_true] at h; exact h.1), ?_, HBU2.out⟩
            have o := HOW2.out
            rw [List.take_of_length_le (by rw [← HEN.out]; exact Nat.le_refl _), KPE.out] at o
            exact o
          case measure =>
            rw [HRG2.out.left_eq, HRG.out.left_eq]
            exact HLT.out
end Go.Proofs.YtpnfpeeijghamaaGreat
