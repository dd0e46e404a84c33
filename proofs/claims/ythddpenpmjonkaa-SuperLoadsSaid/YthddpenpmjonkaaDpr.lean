/- The code's own Disk: Read. -/
import Derived.Test.YthddpenpmjonkaaDpa
namespace Go.Proofs.Ythddpenpmjonkaa
open Go.RowKit
set_option maxRecDepth 100000

theorem Try.zeroSector : (Try.prog.info? 84).map (fun i => (i.zero, i.size)) = some (some (.agg (Array.replicate 64 (.int .u8 0))), 64) := by kernel_rfl
theorem Try.sizeSector : (Try.prog.info? 84).map (·.size) = some 64 := by kernel_rfl
theorem Try.zeroWrites (w : World) : (zeroValue 87).run Try.prog w = .ok (.slice none 0 0) w := by kernel_rfl

theorem own_blockB {w : World} {B g k size : Nat} {e : TypeId} {xs : List Value} (hB : B ≤ g) (hg : w.heap[g]? = some (.cells xs.toArray e (0, 0))) (hl : xs.length = k * size) (hk : k ≤ maxLen) : w.ownsRow B e size (.slice (some ⟨g, 0, none⟩) k k) k xs :=
  ⟨hl, .inr ⟨g, k, xs.toArray, rfl, hB, hg, Nat.le_refl _, hk, by simpa using hl, by rw [← hl]; simp⟩⟩
theorem key_wf {i : Nat} (h : i ≤ 4096) : (key (i : Int)).wf = true := by
  unfold key
  exact WalkArith.wf_i64 (by omega)

set_option maxHeartbeats 2000000 in
theorem cdRead_ok {w : World} {G : Nat → Prop} {q : Nat} {d : Dk.D} (h : CD w G q d) (hd : d.ok) (k : Nat) (hk : k < d.s.length) (hh : Dk.has d (k : Int) = true) (hdd : d.dead = false) (hb : d.bad.getD k false = false) (hcl : d.cache.length ≤ 100000000) :
    Calls Try.prog 41 #[.pointer (some ⟨q, 0, none⟩), .int .i64 (k : Int)] w (CErrOk w.heap.size 0 (Dk.look d k) w) := by
  have H := Lib.hid h
  obtain ⟨AK, cK, m, AF, cF, lf, D, n, V, r, e⟩ := h
  obtain ⟨c0, c1, _, c3, _, _, _⟩ := r.fields
  have hkb : k < d.bad.length := by rw [hd.bads]; exact hk
  have hk4 : k ≤ 4096 := by have := hd.few; omega
  obtain ⟨gF, rfl, _, _, hcF, _⟩ := own_at r.f (by omega)
  have cf := hcF k (.bool false) (by
    rw [List.getElem?_map, List.getElem?_eq_getElem hkb]
    rw [List.getD_eq_getElem?_getD, List.getElem?_eq_getElem hkb] at hb
    simp only [Option.getD_some] at hb
    rw [hb]; rfl)
  obtain ⟨gK, capK, hAK, _, hgK⟩ := r.k.form (by omega)
  injection hAK with hAK _ hcK
  subst hAK
  have hs64 : ∀ b ∈ d.s, (bcells b).length = 64 := fun b hb => kcell_len (hd.secs b hb)
  have sk := Dk.getD_at hk
  obtain ⟨b, hbb⟩ : ∃ b, b = d.s.getD k [] := ⟨_, rfl⟩
  rw [← hbb] at sk
  obtain ⟨Bs, hBs⟩ : ∃ Bs, Bs = bcells b := ⟨_, rfl⟩
  have RK : Hid (w.rangeAt gK (k * 64) Bs) := Lib.hid (hBs ▸ own_range r.k (cel_range hs64 sk))
  have s64 : Hid (Bs.length = 64) := Lib.hid (hBs ▸ hs64 _ (List.mem_of_getElem? sk))
  have B1 : Hid (Bs.toArray.all (·.oneCell') = true) := Lib.hid (all_oneCell_toArray (hBs ▸ bcells_one b))
  have SZ : Hid ((Try.prog.info? 84).map (·.size) = some Bs.toArray.size) := Lib.hid (by have e := s64.out; simp only [List.size_toArray, e]; exact Try.sizeSector)
  have SZ0 : Hid ((Array.replicate 64 (Value.int .u8 0)).size = Bs.toArray.size) := Lib.hid (by have e := s64.out; simp only [List.size_toArray, e, Array.size_replicate])
  have HD := Lib.hid hd
  have HH := Lib.hid hh
  have HDD := Lib.hid hdd
  have R := Lib.hid r
  have kl : (k : Int) < (d.s.length : Int) := by omega
  have kb : (k : Int) < (d.bad.length : Int) := by omega
  have k0 : (k : Int) ≤ 4096 := by omega
  have SL : Hid (Dk.look d k = Dk.lastOf b (Dk.wts d.cache k)) := Lib.hid (by rw [hbb]; exact Dk.seen_wts (d.s.getD k []) k d.cache)
  have HBS := Lib.hid hBs
  have B64 : Hid (b.length = 64) := Lib.hid (by have := s64.out; rw [hBs, bcells_len] at this; exact this)
  have LK : Hid (∀ o : Obj, (Instr.lookup 74 (.map (some m)) (.int .i64 (k : Int)) true).run Try.prog (w.alloc o) = .ok (.tuple #[.slice (V k).1 (Dk.wts d.cache k).length (V k).2, .bool (!(Dk.wts d.cache k).isEmpty)]) (w.alloc o)) := Lib.hid fun o => by
    have q1 := map_look_ok (P := Try.prog) (t := 74) (r.map.alloc o) Try.underlying3 Try.underlying74 (Try.zeroWrites _) (key_wf hk4) (r.look k hk)
    rw [q1, r.has k hk]
  have ql := lt_of_block r.cell
  have c1' : ∀ o, (w.alloc o).cell? ⟨q, 1, none⟩ = some (.map (some m)) := fun o => ((Below.refl w.heap.size w).alloc (Nat.le_refl _) o |>.cell (p := ⟨q, 1, none⟩) ql).trans c1
  clear r e hcF hb hd hs64 sk hgK hh hdd hbb hBs
  have ZS : Hid (w.heap[w.heap.size]? = none) := Lib.hid (Array.getElem?_eq_none (Nat.le_refl _))
  by_cases hw : Dk.wts d.cache k = []
  · have lk := LK.out
    rw [hw] at lk
    replace lk : ∀ o : Obj, (Instr.lookup 74 (.map (some m)) (.int .i64 (k : Int)) true).run Try.prog (w.alloc o) = .ok (.tuple #[.slice (V k).1 0 (V k).2, .bool false]) (w.alloc o) := lk
    have ELK : Hid (Dk.look d k = b) := Lib.hid (by rw [SL.out, hw]; rfl)
    clear hw
    go_enter Try.func41, Try.ntmps41
    go_wp2_with fail
    refine (cdDead_at H.out).mono ?_
    rw [HDD.out]
    rintro e w1 ⟨rfl, rfl⟩
    go_wp2_with fail
    refine (cdHas_c H.out k).mono ?_
    rw [HH.out]
    rintro e w1 ⟨rfl, rfl⟩
    go_wp2_with (first | (refine wpList_load_mid rfl 84 (.tmp 27) rfl gK (k * 64) rfl Bs _ RK.out Try.underlying84 rfl SZ.out ?_) | (refine wpList_alloc_zero rfl 84 rfl Try.zeroSector ?_) | (refine wpList_store_new rfl 84 (.tmp 6) (.tmp 28) rfl (Array.replicate 64 (.int .u8 0)) Bs.toArray rfl rfl SZ.out SZ0.out B1.out ?_))
    go_ret2
    rw [ELK.out]
    exact ⟨_, 64, 64, rfl, B64.out.symm, Nat.le_refl _, own_blockB (Nat.le_refl _) (by rw [← HBS.out]; exact heap_alloc_new w _) (by rw [bcells_len, B64.out]) (by unfold maxLen; omega), (Below.refl _ _).alloc (Nat.le_refl _) _⟩
  · obtain ⟨L, hL⟩ : ∃ L, L = (Dk.wts d.cache k).length := ⟨_, rfl⟩
    have hL1 : 1 ≤ L := by
      rcases Nat.eq_zero_or_pos L with q0 | q0
      · exact absurd (List.eq_nil_of_length_eq_zero (hL.symm.trans q0)) hw
      · exact q0
    have hwl := Dk.wts_len d.cache k
    have hL2 : L ≤ 100000000 := by omega
    have lk := LK.out
    rw [← hL, show (Dk.wts d.cache k).isEmpty = false from by simpa using hw] at lk
    obtain ⟨x, hx⟩ : ∃ x, (Dk.wts d.cache k)[L - 1]? = some x := ⟨_, List.getElem?_eq_getElem (by omega)⟩
    have hx64 := HD.out.at_ _ (Dk.wts_mem (List.mem_of_getElem? hx)).2
    obtain ⟨Cs, hCs⟩ : ∃ Cs, Cs = bcells x.2 := ⟨_, rfl⟩
    have rw_ := R.out.row k hk
    rw [← hL] at rw_
    obtain ⟨gV, capV, hAV, _, hgV⟩ := rw_.form hL1
    injection hAV with hAV _ hcV
    have V2 := R.out.rowF k hk
    rw [hAV] at rw_ lk V2
    have RV : Hid (∀ o : Obj, (w.alloc o).rangeAt gV ((L - 1) * 65 + 1) Cs) := Lib.hid fun o => World.rangeAt_alloc (own_range rw_ (fun j v hv => by
      have := cel_range (f := rcell) (fun y hy => rcell_len (HD.out.at_ _ (Dk.wts_mem hy).2).2) hx (j + 1) v (by rw [hCs] at hv; exact hv)
      rw [show (L - 1) * 65 + 1 + j = (L - 1) * 65 + (j + 1) by omega]
      exact this)) o
    have c64 : Hid (Cs.length = 64) := Lib.hid (by rw [hCs, bcells_len]; exact hx64.2)
    have C1 : Hid (Cs.toArray.all (·.oneCell') = true) := Lib.hid (all_oneCell_toArray (hCs ▸ bcells_one x.2))
    have CZ : Hid ((Try.prog.info? 84).map (·.size) = some Cs.toArray.size) := Lib.hid (by have e := c64.out; simp only [List.size_toArray, e]; exact Try.sizeSector)
    have CZ0 : Hid (Bs.toArray.size = Cs.toArray.size) := Lib.hid (by have e := c64.out; have e2 := s64.out; simp only [List.size_toArray, e, e2])
    have ELK : Hid (Dk.look d k = x.2) := Lib.hid (by rw [SL.out]; exact Dk.lastOf_at (by rw [← hL]; exact hx))
    have X64 := Lib.hid hx64.2
    have HCS := Lib.hid hCs
    have l1 : (1 : Int) ≤ (L : Int) := by omega
    have l2 : (L : Int) ≤ 100000000 := by omega
    have l3 : ((L : Int) - 1).toNat = L - 1 := by omega
    clear hw hL hx hx64 hCs rw_ hgV hAV hwl hcl hk
    go_enter Try.func41, Try.ntmps41
    go_wp2_with fail
    refine (cdDead_at H.out).mono ?_
    rw [HDD.out]
    rintro e w1 ⟨rfl, rfl⟩
    go_wp2_with fail
    refine (cdHas_c H.out k).mono ?_
    rw [HH.out]
    rintro e w1 ⟨rfl, rfl⟩
    go_wp2_with (first | (refine wpList_load_mid rfl 84 (.tmp 27) rfl gK (k * 64) rfl Bs _ RK.out Try.underlying84 rfl SZ.out ?_) | (refine wpList_alloc_zero rfl 84 rfl Try.zeroSector ?_) | (refine wpList_store_new rfl 84 (.tmp 6) (.tmp 28) rfl (Array.replicate 64 (.int .u8 0)) Bs.toArray rfl rfl SZ.out SZ0.out B1.out ?_) | (refine wpList_load_mid rfl 84 (.tmp 44) rfl gV ((L - 1) * 65 + 1) rfl Cs _ (RV.out _) Try.underlying84 rfl CZ.out ?_) | (refine wpList_store_new rfl 84 (.tmp 6) (.tmp 45) rfl Bs.toArray Cs.toArray rfl rfl CZ.out CZ0.out C1.out ?_))
    go_ret2
    rw [ELK.out]
    exact ⟨_, 64, 64, rfl, X64.out.symm, Nat.le_refl _, own_blockB (Nat.le_refl _) (by rw [← HCS.out]; exact heap_alloc_new w _) (by rw [bcells_len, X64.out]) (by unfold maxLen; omega), (Below.refl _ _).alloc (Nat.le_refl _) _⟩

set_option maxHeartbeats 2000000 in
theorem cdRead_c {w : World} {G : Nat → Prop} {q : Nat} {d : Dk.D} (h : CD w G q d) (hd : d.ok) (hcl : d.cache.length ≤ 100000000) (i : Int) :
    Calls Try.prog 41 #[.pointer (some ⟨q, 0, none⟩), .int .i64 i] w (CErrOk w.heap.size (Dk.read d i).2 (Dk.read d i).1 w) := by
  have H := Lib.hid h
  cases hdd : d.dead
  · have HDD := Lib.hid hdd
    cases hh : Dk.has d i
    · have he : Dk.read d i = ([], 1) := by unfold Dk.read; rw [if_neg (by rw [hdd]; simp), if_pos hh]
      rw [he]
      have HH := Lib.hid hh
      clear he hh hdd hd hcl h
      go_enter Try.func41, Try.ntmps41
      go_wp2_with fail
      refine (cdDead_at H.out).mono ?_
      rw [HDD.out]
      rintro e w1 ⟨rfl, rfl⟩
      go_wp2_with fail
      refine (cdHas_c H.out i).mono ?_
      rw [HH.out]
      rintro e w1 ⟨rfl, rfl⟩
      go_wp2
      go_ret2
      exact CErrOk.bad (Below.refl _ _)
    · obtain ⟨h0, h1⟩ := Dk.has_iff.1 hh
      obtain ⟨k, rfl⟩ := Int.eq_ofNat_of_zero_le h0
      have hk : k < d.s.length := by omega
      cases hb : d.bad.getD k false
      · have he : Dk.read d (k : Int) = (Dk.look d k, 0) := by unfold Dk.read; rw [if_neg (by rw [hdd]; simp), if_neg (by rw [hh]; simp), if_neg (by rw [Int.toNat_natCast, hb]; simp), Int.toNat_natCast]
        rw [he]
        exact cdRead_ok h hd k hk hh hdd hb hcl
      · have he : Dk.read d (k : Int) = ([], 52) := by unfold Dk.read; rw [if_neg (by rw [hdd]; simp), if_neg (by rw [hh]; simp), if_pos (by rw [Int.toNat_natCast, hb])]
        rw [he]
        have HH := Lib.hid hh
        have hkb : k < d.bad.length := by rw [hd.bads]; exact hk
        have kb : (k : Int) < (d.bad.length : Int) := by omega
        obtain ⟨AK, cK, m, AF, cF, lf, D, n, V, r, e⟩ := h
        have c3 := r.fields.2.2.2.1
        obtain ⟨gF, rfl, _, _, hcF, _⟩ := own_at r.f (by omega)
        have cf := hcF k (.bool true) (by
          rw [List.getElem?_map, List.getElem?_eq_getElem hkb]
          rw [List.getD_eq_getElem?_getD, List.getElem?_eq_getElem hkb] at hb
          simp only [Option.getD_some] at hb
          rw [hb]; rfl)
        clear he hh hdd hd hcl r e hcF hb h1 hk
        go_enter Try.func41, Try.ntmps41
        go_wp2_with fail
        refine (cdDead_at H.out).mono ?_
        rw [HDD.out]
        rintro e w1 ⟨rfl, rfl⟩
        go_wp2_with fail
        refine (cdHas_c H.out k).mono ?_
        rw [HH.out]
        rintro e w1 ⟨rfl, rfl⟩
        go_wp2
        go_ret2
        exact CErrOk.bad (Below.refl _ _)
  · have he : Dk.read d i = ([], 50) := by unfold Dk.read; rw [if_pos hdd]
    rw [he]
    have HDD := Lib.hid hdd
    clear he hdd hd hcl h
    go_enter Try.func41, Try.ntmps41
    go_wp2_with fail
    refine (cdDead_at H.out).mono ?_
    rw [HDD.out]
    rintro e w1 ⟨rfl, rfl⟩
    go_wp2
    go_ret2
    exact CErrOk.bad (Below.refl _ _)
end Go.Proofs.Ythddpenpmjonkaa
