/- Stage 8: store.happen, Get, Keys, Records, runs, room, behind. Stage 8: a Store and its wal and disk; Commit, where it goes as it should. Stage 8: Commit, where there is room. Stage 8: Compact, where there is room; Format, Keys. -/
import Derived.Test.YtpnfpeeijghamaaGreatEg
import Derived.Test.YtpnfpeeijghamaaGreatVh
import Derived.Deep.RegionHeld3
import Derived.Test.YtpnfpeeijghamaaGreatVn
namespace Go.Proofs.YtpnfpeeijghamaaGreat
set_option maxRecDepth 100000

section
open Go.RowKit Go.Maps

section
variable {w w' : World} {B : Nat} {t tp tb : TypeId} {A : Option Addr} {xs : List Value} {mb : Nat}
theorem Lies.keepM {es : Array MapEntry} {ck : Nat} (h : Lies w B t A xs) (hm : w.heap[mb]? = some (.map es ck)) (hk : ∀ b, b < w.heap.size → b ≠ mb → w'.heap[b]? = w.heap[b]?) : Lies w' B t A xs := fun hx => by
  obtain ⟨ad, e, h1, h2⟩ := h hx
  have hl : 0 < xs.length := List.length_pos_iff.2 hx
  have c := h2 0 _ (List.getElem?_eq_getElem hl)
  have hb : ad.block < w.heap.size := by have := World.block_lt_of_cell? w _ c; rwa [addr_block] at this
  have hne : ad.block ≠ mb := fun q => by
    have z : (ad.add 0).block = mb := by rw [addr_block]; exact q
    simp [World.cell?, z, hm] at c
  have k := hk _ hb hne
  refine ⟨ad, e, h1.imp (fun q => q) (fun ⟨cs, fr, r⟩ => ⟨cs, fr, k.trans r⟩), fun j u hu => (World.cell?_of_block (by rw [addr_block]; exact k)).trans (h2 j u hu)⟩
theorem UL.keepM {ms : List MPu} {es : Array MapEntry} {ck : Nat} (h : UL w B tp tb A ms) (hm : w.heap[mb]? = some (.map es ck)) (hk : ∀ b, b < w.heap.size → b ≠ mb → w'.heap[b]? = w.heap[b]?) : UL w' B tp tb A ms :=
  ⟨h.1.keepM hm hk, fun m q => ⟨(h.2 m q).1.keepM hm hk, (h.2 m q).2⟩⟩
end

set_option maxHeartbeats 1000000 in
set_option maxRecDepth 100000 in
theorem happen_c {A : Option Addr} {c n nl : Nat} {ms : List MPu} {w : World} {B : Nat} {tp tb : TypeId} {V : Nat → Prop} {mb : Nat} {D : DataW Value} {L : List St.KV} (h : UL w B tp tb A ms) (hn : nl = ms.length) (hm : ms.length ≤ 60000) (hl : ∀ m ∈ ms, m.p.k.length ≤ 60000 ∧ m.p.v.length ≤ 60000)
    (hK : KM w V mb n D L) (hV : ∀ k, w.heap.size ≤ k → V k) (hV2 : ∀ k, V k → k ≠ mb) (hs : n ≤ 1000000000) :
    Calls Tryz.prog 43 #[.map (some mb), .slice A nl c] w fun e w' => e = .returned (.tuple #[]) ∧ (∃ n' D', n' ≤ n + ms.length ∧ KM w' V mb n' D' (St.hap L (pus ms))) ∧ But (fun k => k = mb) w.heap.size w w' := by
  have HP := Lib.hid (h.old (tp' := 0) (tb' := 0))
  have HL := Lib.hid hl
  have HK := Lib.hid hK
  have HV := Lib.hid hV
  have HV2 := Lib.hid hV2
  obtain ⟨es, ck, hmb, _⟩ := hK.own
  have HMB := Lib.hid hmb
  have hlt := hK.own.lt
  clear h hl hK hV hV2 hmb
  subst hn
  go_enter Tryz.func43, Tryz.ntmps43
  go_wp2_with fail
  go_loopw [8] (fun i wr => ∃ (k n' : Nat) (D' : DataW Value), k ≤ ms.length ∧ i = .int .i64 (k : Int) ∧ n' ≤ n + k ∧ KM wr V mb n' D' (St.hap L (pus (ms.take k))) ∧ But (fun k => k = mb) w.heap.size w wr) (fun i _ => ms.length - (intOf i).toNat)
  case atStart => exact ⟨0, n, D, Nat.zero_le _, rfl, by omega, by simpa [pus, St.hap] using HK.out, But.refl _ _ _⟩
  case round =>
    obtain ⟨k, n', D', hk, rfl, hn', hKr, hb⟩ := hrel
    have hzr := hb.size
    by_cases hlt2 : k < ms.length
    · obtain ⟨ad, m, rfl, hm', hfine, d0, d1, d2⟩ := (HP.out.keepM HMB.out (fun b h1 h2 => hb.block b h1 h2)).at_ hlt2
      have HM := Lib.hid hm'
      have HF := Lib.hid hfine
      have HB := Lib.hid hb
      have HKR := Lib.hid hKr
      have lk := (HL.out m (List.mem_of_getElem? hm')).1
      have lv := (HL.out m (List.mem_of_getElem? hm')).2
      have hp0 : (wr.alloc (.cells #[.string (str m.p.k), .slice m.A m.p.v.length m.c, .bool m.p.g] 33)).heap[wr.heap.size]? = some (.cells #[.string (str m.p.k), .slice m.A m.p.v.length m.c, .bool m.p.g] 33 (0, 0)) := heap_alloc_new wr _
      have HP0 := Lib.hid hp0
      have b0 := (Below.refl wr.heap.size wr).alloc (Nat.le_refl _) (.cells #[.string (str m.p.k), .slice m.A m.p.v.length m.c, .bool m.p.g] 33)
      have HB0 := Lib.hid b0
      clear hm' hfine hb hKr hp0 b0
      cases hg : m.p.g with
      | true =>
        rw [hg] at d2 HP0 HB0
        have E : Hid (St.hap L (pus (ms.take (k + 1))) = St.del m.p.k (St.hap L (pus (ms.take k)))) := Lib.hid (by rw [take_next HM.out, pus_snoc, St.hap_snoc]; unfold St.hap1; rw [if_pos hg])
        clear hg
        have KW := Lib.hid (HKR.out.below HB0.out)
        go_wp2_with (at_delete; refine wpList_delete_own _ rfl _ _ 87 9 rfl 23 strK Tryz.underlying87 _ mb n' D' rfl KW.out.own _ _ rfl (skeyOf (by unfold maxLen; omega)) ?_; intro w1 hown1 hturn1)
        have K1 := Lib.hid (KW.out.del hown1 hturn1.grown HV2.out)
        have B1 := Lib.hid ((HB.out.trans (But.of_below (HB0.out.mono hzr) _)).grown hturn1.grown (by simp; omega) (fun k e => by injection e with e; exact .inl e.symm))
        clear hown1 hturn1
        go_wp2
        go_roundw
        case rel => exact ⟨k + 1, n', _, by omega, by go_num, by omega, by rw [E.out]; exact K1.out, B1.out⟩
        case measure => simp [intOf]; omega
      | false =>
        rw [hg] at d2 HP0 HB0
        have E : Hid (St.hap L (pus (ms.take (k + 1))) = St.ins m.p.k m.p.v (St.hap L (pus (ms.take k)))) := Lib.hid (by rw [take_next HM.out, pus_snoc, St.hap_snoc]; unfold St.hap1; rw [if_neg (by rw [hg]; simp)])
        clear hg
        have KW := Lib.hid (HKR.out.below HB0.out)
        obtain ⟨c0, c1, _⟩ := three_cells HP0.out
        have VL := Lib.hid ((HF.out.1.below hzr HB0.out))
        have NB : Hid (n' < maxLen) := Lib.hid (by unfold maxLen; omega)
        go_wp2_with fail
        obtain ⟨wp, hwp⟩ : ∃ wp, wr.alloc (.cells #[.string (str m.p.k), .slice m.A m.p.v.length m.c, .bool false] 33) = wp := ⟨_, rfl⟩
        have szp : Hid (wp.heap.size = wr.heap.size + 1) := Lib.hid (by rw [← hwp]; simp)
        rw [hwp] at HP0 HB0 KW VL c0 c1 ⊢
        clear hwp
        go_region_held (fun u => u.cell? ⟨wr.heap.size, 0, none⟩ = some (.string (str m.p.k)) ∧ u.cell? ⟨wr.heap.size, 1, none⟩ = some (.slice m.A m.p.v.length m.c)) (first | exact ⟨c0, c1⟩ | exact S5 | exact S6)
          (first | (go_at_call 55; refine (clone_c VL.out.drew (by show w.heap.size ≤ wp.heap.size; have := szp.out; omega) rfl (by omega)).mono ?_; rintro e w5 ⟨A5, n5, c5, rfl, ho5, hb5⟩; obtain ⟨rfl, hc5⟩ := own_room ho5; have b5 := (Below.refl wp.heap.size wp).drew.trans hb5; obtain ⟨w6, hrun6, hK6, hg6⟩ := (KW.out.below b5).put (k := m.p.k) (by unfold maxLen; omega) hc5 (lies_own ho5) (InF.of_own ho5 (fun k hk => HV.out k (by have := szp.out; have hk' : wp.heap.size ≤ k := hk; omega))) (own_lt ho5) HV2.out NB.out; have q5 := (b5.block wr.heap.size (by have := szp.out; omega)).trans HP0.out; have S5 : w5.cell? ⟨wr.heap.size, 0, none⟩ = some (.string (str m.p.k)) ∧ w5.cell? ⟨wr.heap.size, 1, none⟩ = some (.slice m.A m.p.v.length m.c) := ⟨(three_cells q5).1, (three_cells q5).2.1⟩; have q6 := (hg6.block wr.heap.size (lt_of_block q5) (fun e => by injection e with e; omega)).trans q5; have S6 : w6.cell? ⟨wr.heap.size, 0, none⟩ = some (.string (str m.p.k)) ∧ w6.cell? ⟨wr.heap.size, 1, none⟩ = some (.slice m.A m.p.v.length m.c) := ⟨(three_cells q6).1, (three_cells q6).2.1⟩))
        have K6 := Lib.hid hK6
        have z5 := b5.size
        have B6 := Lib.hid ((HB.out.trans (But.of_below ((HB0.out.trans (b5.mono (by have := szp.out; omega))).mono hzr) (fun k => k = mb))).grown hg6 (by have := szp.out; omega) (fun k e => by injection e with e; exact .inl e.symm))
        clear hK6 b5 hg6 ho5 hb5 hrun6 S5 S6 q5 q6 c0 c1
        go_wp2
        go_roundw
        case rel => exact ⟨k + 1, n' + 1, _, by omega, by go_num, by omega, by rw [E.out]; exact K6.out, B6.out⟩
        case measure => simp [intOf]; omega
    · obtain rfl : k = ms.length := by omega
      rw [List.take_length] at hKr
      have KR := Lib.hid hKr
      have HB := Lib.hid hb
      clear hKr hb
      go_wp2
      go_end0
      exact ⟨rfl, ⟨n', D', hn', KR.out⟩, HB.out⟩

/-! The Store. -/
/-- The code's Store at block sp: its wal, the map of what is there, whether it is at an end. -/
def ST (w : World) (sp : Nat) (pw : Option Nat) (mb : Nat) (ended : Bool) : Prop :=
  w.heap[sp]? = some (.cells #[.pointer (pw.map fun p => ⟨p, 0, none⟩), .map (some mb), .bool ended] 90 (0, 0))
section
variable {w w' : World} {sp pw mb : Nat} {ended : Bool}
theorem ST.cells3 {pw : Option Nat} (h : ST w sp pw mb ended) : w.cell? ⟨sp, 0, none⟩ = some (.pointer (pw.map fun p => ⟨p, 0, none⟩)) ∧ w.cell? ⟨sp, 1, none⟩ = some (.map (some mb)) ∧ w.cell? ⟨sp, 2, none⟩ = some (.bool ended) := three_cells h
theorem runs_c (h : ST w sp (some pw) mb ended) : Calls Tryz.prog 44 #[.pointer (some ⟨sp, 0, none⟩)] w fun e w' => e = .returned (.bool (!ended)) ∧ w = w' := by
  obtain ⟨c0, c1, c2⟩ := h.cells3
  rw [Option.map_some] at c0
  clear h
  cases ended
  · go_enter Tryz.func44, Tryz.ntmps44
    go_wp2
    go_ret
    exact ⟨rfl, rfl⟩
  · go_enter Tryz.func44, Tryz.ntmps44
    go_wp2
    go_ret
    exact ⟨rfl, rfl⟩
theorem runs_nil (w : World) : Calls Tryz.prog 44 #[.pointer none] w fun e w' => e = .returned (.bool false) ∧ w = w' := by
  go_enter Tryz.func44, Tryz.ntmps44
  go_wp2
  go_ret
  exact ⟨rfl, rfl⟩
/-- What the wal answered. -/
theorem behind_c {pw : Option Nat} (h : ST w sp pw mb ended) (er : Int) : Calls Tryz.prog 50 #[.pointer (some ⟨sp, 0, none⟩), .int .i64 er] w fun e w' => e = .returned (.int .i64 er) ∧ ST w' sp pw mb (decide (er = 50)) ∧ w' = w.setCell ⟨sp, 2, none⟩ (.bool (decide (er = 50))) := by
  obtain ⟨c0, c1, c2⟩ := h.cells3
  have f2 := blk_free h 2
  have HS := Lib.hid h
  clear h
  have fin : ∀ b, ST (w.setCell ⟨sp, 2, none⟩ (.bool b)) sp pw mb b := fun b => (blk_set HS.out 2 _).trans rfl
  by_cases he : er = 50
  · have e1 : (er == 50) = true := by simp [he]
    have e2 : decide (er = 50) = true := decide_eq_true he
    rw [e2]
    clear he
    go_enter Tryz.func50, Tryz.ntmps50
    go_wp2
    go_ret
    exact ⟨rfl, fin true, rfl⟩
  · have e1 : (er == 50) = false := by simp [he]
    have e2 : decide (er = 50) = false := decide_eq_false he
    rw [e2]
    go_enter Tryz.func50, Tryz.ntmps50
    go_wp2
    go_ret
    exact ⟨rfl, fin false, rfl⟩
/-- A value, of the caller's own. -/
def GetOk (v : Option (List UInt8)) (w : World) (e : Ending) (w' : World) : Prop :=
  ∃ A n c, e = .returned (.tuple #[.slice A n c, .bool v.isSome]) ∧ n = (v.getD []).length ∧ Lies w' 0 5 A (bcells (v.getD [])) ∧ Below w.heap.size w w'
theorem get_c {V : Nat → Prop} {pw : Option Nat} {n : Nat} {D : DataW Value} {L : List St.KV} {k : List UInt8} (h : ST w sp pw mb ended) (hK : KM w V mb n D L) (hk : k.length ≤ maxLen) (v : Option (List UInt8)) (hv : ∀ u, v = some u → (k, u) ∈ L ∧ u.length ≤ 1000000) (hn : v = none → ∀ u, (k, u) ∉ L) :
    Calls Tryz.prog 22 #[.pointer (some ⟨sp, 0, none⟩), .string (str k)] w (GetOk v w) := by
  obtain ⟨c0, c1, c2⟩ := h.cells3
  clear h
  obtain ⟨A, nv, c, hb, hl, hA, hnv, hle⟩ : ∃ A nv c, Maps.has D (.string k) = v.isSome ∧ lk D k = .held (.slice A nv c) ∧ Lies w 0 5 A (bcells (v.getD [])) ∧ nv = (v.getD []).length ∧ (v.getD []).length ≤ 1000000 := by
    cases v with
    | none =>
      obtain ⟨q1, q2⟩ := hK.not (hn rfl)
      exact ⟨none, 0, 0, q1, q2, Lies.nil, rfl, by simp⟩
    | some u =>
      obtain ⟨q0, q⟩ := hv u rfl
      obtain ⟨q1, A, c, q2, _, q3⟩ := hK.there q0
      exact ⟨A, _, c, q1, q2, q3, rfl, q⟩
  have lo := hK.look_ok hk hl
  rw [hb] at lo
  have HA := Lib.hid hA
  have HN := Lib.hid hnv
  have HLE := Lib.hid hle
  clear hb hl hA hK hv hn hnv hle
  go_enter Tryz.func22, Tryz.ntmps22
  go_wp2_with fail
  refine (clone_c HA.out (Nat.zero_le _) HN.out (by have := HLE.out; omega)).mono ?_
  rintro e w5 ⟨A5, n5, c5, rfl, ho5, hb5⟩
  obtain ⟨rfl, _⟩ := own_room ho5
  have HO := Lib.hid ho5
  have HB := Lib.hid hb5
  clear ho5 hb5
  go_wp2
  go_ret2
  exact ⟨A5, _, c5, rfl, rfl, lies_own HO.out, HB.out⟩
theorem get_nil (s : ByteArray) (w : World) : Calls Tryz.prog 22 #[.pointer none, .string s] w fun e w' => e = .returned (.tuple #[.slice none 0 0, .bool false]) ∧ w = w' := by
  go_enter Tryz.func22, Tryz.ntmps22
  go_wp2
  go_ret2
  exact ⟨rfl, rfl⟩
theorem records_nil (w : World) : Calls Tryz.prog 23 #[.pointer none] w fun e w' => e = .returned (.int .i64 0) ∧ w = w' := by
  go_enter Tryz.func23, Tryz.ntmps23
  go_wp2
  go_ret
  exact ⟨rfl, rfl⟩
theorem compact_nil (w : World) : Calls Tryz.prog 19 #[.pointer none] w fun e w' => e = .returned (.int .i64 50) ∧ w = w' := by
  go_enter Tryz.func19, Tryz.ntmps19
  go_wp2_with (go_at_call 44; refine (runs_nil _).mono ?_; rintro e w' ⟨rfl, rfl⟩)
  go_ret
  exact ⟨rfl, rfl⟩
theorem commit_nil (A : Option Addr) (n c : Nat) (hn : 0 < n) (w : World) : Calls Tryz.prog 16 #[.pointer none, .slice A n c] w fun e w' => e = .returned (.int .i64 50) ∧ w = w' := by
  have h0 : ((n : Int) == 0) = false := by simp; omega
  go_enter Tryz.func16, Tryz.ntmps16
  go_wp2_with (go_at_call 44; refine (runs_nil _).mono ?_; rintro e w' ⟨rfl, rfl⟩)
  go_ret
  exact ⟨rfl, rfl⟩
end
end

section
open Go.RowKit Go.Maps Go.Shelf

theorem KM.fit {w : World} {V : Nat → Prop} {mb n : Nat} {D : DataW Value} {L : List St.KV} (h : KM w V mb n D L) : KM w V mb L.length D L := by
  have hz := h.size
  obtain ⟨es, clock, hb, F, hs, hD⟩ := h.own
  refine ⟨⟨es, clock, hb, F, ?_, hD⟩, h.has, h.val, h.srt, h.len⟩
  rw [hD] at hz
  have e := length_sorted (es.toList.map (WideElems.rg Tryz.prog 9 asIs))
  rw [List.length_map, Array.length_toList] at e
  exact Nat.le_of_eq (e.symm.trans hz)

/-- A Store with its wal and its disk. -/
structure SS (w : World) (B : Nat) (E G V : Nat → Prop) (sp pw q mb : Nat) (s : VS) (d : Dk.D) (L : List St.KV) (over : Bool) : Prop where
  ws : CWS w B E G pw q s d
  st : ST w sp (some pw) mb over
  km : ∃ D, KM w V mb L.length D L
  vb : ∀ k, V k → k < w.heap.size ∧ B ≤ k ∧ ¬ E k ∧ ¬ G k ∧ k ≠ sp
  sb : B ≤ sp ∧ ¬ E sp ∧ ¬ G sp
  mm : B ≤ mb ∧ ¬ E mb ∧ ¬ G mb
/-- What a call on it left. -/
structure SStep (w w' : World) (B : Nat) (E G V E2 G2 V2 : Nat → Prop) (sp pw q mb : Nat) (s : VS) (d : Dk.D) (L : List St.KV) (over : Bool) : Prop where
  ss : SS w' B E2 G2 V2 sp pw q mb s d L over
  ne : ∀ k, k < w.heap.size → E2 k → E k
  ng : ∀ k, k < w.heap.size → G2 k → G k
  nv : ∀ k, k < w.heap.size → V2 k → V k
  but : But (fun k => E k ∨ G k ∨ k = sp) w.heap.size w w'
  below : Below B w w'
section
variable {w w' : World} {B : Nat} {E G V : Nat → Prop} {sp pw q mb : Nat} {s : VS} {d : Dk.D} {L : List St.KV} {over : Bool}
theorem SS.keep (h : SS w B E G V sp pw q mb s d L over) (hb : Below w.heap.size w w') : SS w' B E G V sp pw q mb s d L over := by
  obtain ⟨D, hk⟩ := h.km
  exact ⟨h.ws.keep hb, (hb.block sp (lt_of_block h.st)).trans h.st, ⟨D, hk.below hb⟩, fun k q => ⟨Nat.lt_of_lt_of_le (h.vb k q).1 hb.size, (h.vb k q).2⟩, h.sb, h.mm⟩
theorem sp_ne (h : SS w B E G V sp pw q mb s d L over) : mb ≠ sp := fun e => by
  obtain ⟨D, hk⟩ := h.km
  obtain ⟨es, c, hb, _⟩ := hk.own
  have := h.st
  unfold ST at this
  rw [e, this] at hb
  cases hb

/-- Room enough. -/
theorem room_c (h : SS w B E G V sp pw q mb s d L over) {nd : Nat} (hf : nd ≤ Wl.ring d - Wl.needs s.l) :
    Calls Tryz.prog 48 #[.pointer (some ⟨sp, 0, none⟩), .int .i64 (nd : Int)] w fun e w' => e = .returned (.int .i64 0) ∧ w' = w.drew := by
  obtain ⟨AN, cN, y⟩ := h.ws.x.cw
  have F := Lib.hid (vFree_c y)
  obtain ⟨c0, c1, c2⟩ := h.st.cells3
  rw [Option.map_some] at c0
  obtain ⟨fr, hfr⟩ : ∃ fr, fr = Wl.ring d - Wl.needs s.l := ⟨_, rfl⟩
  rw [← hfr] at F hf
  have hle : (nd : Int) ≤ (fr : Int) := by omega
  clear h y hfr hf
  go_enter Tryz.func48, Tryz.ntmps48
  go_wp2_with (go_at_call 76; refine F.out.mono ?_; rintro e w' ⟨rfl, rfl⟩)
  go_ret
  exact ⟨rfl, rfl⟩

/-- The record of what is to be added, behind the calls ahead of it. -/
theorem txs_one {wz : World} {G : Nat → Prop} {A : Option Addr} {n c : Nat} {b : List UInt8} {base : Nat} (hL : Lies wz 0 5 A (bcells b)) (hn : n = b.length) (hc : n ≤ c) (hA : InF (fun k => base ≤ k ∧ k < wz.heap.size) A) (hG : ∀ k, G k → k < base) (hz : base ≤ wz.heap.size) (hb : b.length ≤ 1000000) {g : Nat} (hg : g = wz.heap.size) :
    Txs (wz.alloc (.cells #[.slice A n c] 23)) G (some ⟨g, 0, none⟩) [⟨b, A, c⟩] := by
  subst hn
  subst hg
  have sz : (wz.alloc (.cells #[.slice A b.length c] 23)).heap.size = wz.heap.size + 1 := by simp
  refine ⟨Lies.of_blk (heap_alloc_new wz (.cells #[.slice A b.length c] 23)), fun _ ad e => ?_, fun m hm => ?_⟩
  · injection e with e
    subst e
    exact ⟨fun q => by have := hG _ q; dsimp only at this; omega, by rw [sz]; show wz.heap.size < _; omega⟩
  · rw [List.mem_singleton] at hm
    subst hm
    exact ⟨⟨((hL.alloc (Nat.zero_le _) _).more (Nat.zero_le _)), hc⟩, fun _ ad e => by
      obtain ⟨z1, z2⟩ := hA ad e
      exact ⟨fun q => by have := hG _ q; omega, by rw [sz]; omega⟩, hb⟩
end
end

section
open Go.RowKit Go.Maps Go.Shelf

theorem mclone_c {V : Nat → Prop} {mb n : Nat} {D : DataW Value} {L : List St.KV} {w : World} (h : KM w V mb n D L) :
    Calls Tryz.prog 46 #[.map (some mb)] w fun e w' => e = .returned (.map (some w.heap.size)) ∧ KM w' V w.heap.size n D L ∧ Below w.heap.size w w' := by
  have q := AnyW.maps_Clone_owns Tryz.cloneA 9 asIs mb n D w h.own
  change Calls Tryz.prog 46 _ _ _ at q
  refine q.mono ?_
  rintro e w' ⟨rfl, h1, _, hb⟩
  exact ⟨rfl, h.copy hb h1, hb⟩

/-- How a call ends that changes the wal alone. -/
theorem compact_end {w w6 w7 : World} {B : Nat} {E G V E2 G2 : Nat → Prop} {sp pw q mb : Nat} {s s2 : VS} {d d2 : Dk.D} {L : List St.KV} (h : SS w B E G V sp pw q mb s d L false) (hB : B ≤ w.heap.size) (b6 : Below w.heap.size w w6) (stp : CWStep w6 w7 B E G E2 G2 pw q s2 d2) :
    ∀ b, SStep w (w7.setCell ⟨sp, 2, none⟩ (.bool b)) B E G V E2 G2 V sp pw q mb s2 d2 L b := by
  have hsp := lt_of_block h.st
  have s6 := b6.size
  have s7 := stp.but.size
  have eo := h.ws.x.eo
  have go := h.ws.x.go
  have nE : ∀ k, w.heap.size ≤ k → ¬ E k := fun k hk e => by have := eo k e; omega
  have nG : ∀ k, w.heap.size ≤ k → ¬ G k := fun k hk e => by have := go k e; omega
  have off7 : ∀ k, k < w6.heap.size → ¬ E k → ¬ G k → w7.heap[k]? = w6.heap[k]? := fun k hk he hg => stp.but.block k hk (fun z => z.elim he hg)
  have st7 : ST w7 sp (some pw) mb false := (off7 sp (by omega) h.sb.2.1 h.sb.2.2).trans ((b6.block sp hsp).trans h.st)
  have spE : ¬ E2 sp := fun e => h.sb.2.1 (stp.ne sp (by omega) e)
  have spG : ¬ G2 sp := fun e => h.sb.2.2 (stp.ng sp (by omega) e)
  have ws : ∀ w8 : World, (∀ k, k ≠ sp → w8.heap[k]? = w7.heap[k]?) → w7.heap.size ≤ w8.heap.size → CWS w8 B E2 G2 pw q s2 d2 := fun w8 h8 z8 =>
    ⟨stp.cs.x.off (fun k hk => h8 k (fun e => by subst e; exact hk.elim spE spG)) z8, stp.cs.eb, stp.cs.gb⟩
  have bt : ∀ w8 : World, (∀ k, k ≠ sp → w8.heap[k]? = w7.heap[k]?) → w7.heap.size = w8.heap.size → w8.os = w7.os → w8.tape = w7.tape → w8.output = w7.output → But (fun k => E k ∨ G k ∨ k = sp) w.heap.size w w8 ∧ Below B w w8 := fun w8 h8 z8 o1 o2 o3 => by
    refine ⟨⟨o1.trans (stp.but.os.trans b6.os), o2.trans (stp.but.tape.trans b6.tape), o3.trans (stp.but.output.trans b6.output), by omega, fun k hk hf => ?_⟩, ⟨o1.trans (stp.but.os.trans b6.os), o2.trans (stp.but.tape.trans b6.tape), o3.trans (stp.but.output.trans b6.output), by omega, fun k hk => ?_⟩⟩
    · exact (h8 k (fun e => hf (.inr (.inr e)))).trans ((off7 k (by omega) (fun e => hf (.inl e)) (fun e => hf (.inr (.inl e)))).trans (b6.block k hk))
    · exact (h8 k (fun e => by have := h.sb.1; omega)).trans ((stp.below.block k hk).trans (b6.block k (by omega)))
  have ne : ∀ k, k < w.heap.size → E2 k → E k := fun k hk e => stp.ne k (by omega) e
  have ng : ∀ k, k < w.heap.size → G2 k → G k := fun k hk e => stp.ng k (by omega) e
  have n2 : ∀ k, k < w6.heap.size → ¬ E k → ¬ E2 k := fun k hk he e => he (stp.ne k hk e)
  have m2 : ∀ k, k < w6.heap.size → ¬ G k → ¬ G2 k := fun k hk he e => he (stp.ng k hk e)
  intro b
  have h8 : ∀ k, k ≠ sp → (w7.setCell ⟨sp, 2, none⟩ (.bool b)).heap[k]? = w7.heap[k]? := fun k hk => Below.heap_setCell _ _ _ _ hk
  obtain ⟨bt1, bt2⟩ := bt _ h8 (by simp [World.setCell]) rfl rfl rfl
  obtain ⟨D, hk⟩ := h.km
  have mlt := hk.own.lt
  refine ⟨⟨ws _ h8 (by simp [World.setCell]), ?_, ⟨D, hk.keep ?_ ?_ (by simp [World.setCell]; omega)⟩, fun k hk => ?_, ⟨h.sb.1, spE, spG⟩, ⟨h.mm.1, n2 _ (by omega) h.mm.2.1, m2 _ (by omega) h.mm.2.2⟩⟩, ne, ng, fun k _ q => q, bt1, bt2⟩
  · exact (blk_set st7 2 _).trans rfl
  · exact (h8 mb (sp_ne h)).trans ((off7 mb (by omega) h.mm.2.1 h.mm.2.2).trans (b6.block mb mlt))
  · intro k hk _
    obtain ⟨v1, v2, v3, v4, v5⟩ := h.vb k hk
    exact (h8 k v5).trans ((off7 k (by omega) v3 v4).trans (b6.block k v1))
  · obtain ⟨v1, v2, v3, v4, v5⟩ := h.vb k hk
    exact ⟨by simp [World.setCell]; omega, v2, n2 k (by omega) v3, m2 k (by omega) v4, v5⟩
/-- How a commit ends: what the wal answered. -/
theorem commit_end {w w3 w6 w7 : World} {B : Nat} {E G V E2 G2 : Nat → Prop} {sp pw q mb mb2 : Nat} {s s2 : VS} {d d2 : Dk.D} {L L2 : List St.KV} {D2 : DataW Value} (h : SS w B E G V sp pw q mb s d L false) (hB : B ≤ w.heap.size) (b6 : Below w.heap.size w w6) {z2 : Nat} (hz2 : w.heap.size ≤ z2)
    (k3 : KM w3 (fun k => (V k ∨ z2 ≤ k) ∧ k < w3.heap.size) mb2 L2.length D2 L2) (hm2 : w.heap.size ≤ mb2) (b36 : Below w3.heap.size w3 w6) (stp : CWStep w6 w7 B E G E2 G2 pw q s2 d2) :
    SStep w ((w7.setCell ⟨sp, 2, none⟩ (.bool false)).setCell ⟨sp, 1, none⟩ (.map (some mb2))) B E G V E2 G2 (fun k => (V k ∨ z2 ≤ k) ∧ k < w3.heap.size) sp pw q mb2 s2 d2 L2 false ∧
    ∀ b, SStep w (w7.setCell ⟨sp, 2, none⟩ (.bool b)) B E G V E2 G2 V sp pw q mb s2 d2 L b := by
  have hsp := lt_of_block h.st
  have s6 := b6.size
  have s7 := stp.but.size
  have eo := h.ws.x.eo
  have go := h.ws.x.go
  have nE : ∀ k, w.heap.size ≤ k → ¬ E k := fun k hk e => by have := eo k e; omega
  have nG : ∀ k, w.heap.size ≤ k → ¬ G k := fun k hk e => by have := go k e; omega
  have off7 : ∀ k, k < w6.heap.size → ¬ E k → ¬ G k → w7.heap[k]? = w6.heap[k]? := fun k hk he hg => stp.but.block k hk (fun z => z.elim he hg)
  have st7 : ST w7 sp (some pw) mb false := (off7 sp (by omega) h.sb.2.1 h.sb.2.2).trans ((b6.block sp hsp).trans h.st)
  have spE : ¬ E2 sp := fun e => h.sb.2.1 (stp.ne sp (by omega) e)
  have spG : ¬ G2 sp := fun e => h.sb.2.2 (stp.ng sp (by omega) e)
  have ws : ∀ w8 : World, (∀ k, k ≠ sp → w8.heap[k]? = w7.heap[k]?) → w7.heap.size ≤ w8.heap.size → CWS w8 B E2 G2 pw q s2 d2 := fun w8 h8 z8 =>
    ⟨stp.cs.x.off (fun k hk => h8 k (fun e => by subst e; exact hk.elim spE spG)) z8, stp.cs.eb, stp.cs.gb⟩
  have bt : ∀ w8 : World, (∀ k, k ≠ sp → w8.heap[k]? = w7.heap[k]?) → w7.heap.size = w8.heap.size → w8.os = w7.os → w8.tape = w7.tape → w8.output = w7.output → But (fun k => E k ∨ G k ∨ k = sp) w.heap.size w w8 ∧ Below B w w8 := fun w8 h8 z8 o1 o2 o3 => by
    refine ⟨⟨o1.trans (stp.but.os.trans b6.os), o2.trans (stp.but.tape.trans b6.tape), o3.trans (stp.but.output.trans b6.output), by omega, fun k hk hf => ?_⟩, ⟨o1.trans (stp.but.os.trans b6.os), o2.trans (stp.but.tape.trans b6.tape), o3.trans (stp.but.output.trans b6.output), by omega, fun k hk => ?_⟩⟩
    · exact (h8 k (fun e => hf (.inr (.inr e)))).trans ((off7 k (by omega) (fun e => hf (.inl e)) (fun e => hf (.inr (.inl e)))).trans (b6.block k hk))
    · exact (h8 k (fun e => by have := h.sb.1; omega)).trans ((stp.below.block k hk).trans (b6.block k (by omega)))
  have ne : ∀ k, k < w.heap.size → E2 k → E k := fun k hk e => stp.ne k (by omega) e
  have ng : ∀ k, k < w.heap.size → G2 k → G k := fun k hk e => stp.ng k (by omega) e
  have n2 : ∀ k, k < w6.heap.size → ¬ E k → ¬ E2 k := fun k hk he e => he (stp.ne k hk e)
  have m2 : ∀ k, k < w6.heap.size → ¬ G k → ¬ G2 k := fun k hk he e => he (stp.ng k hk e)
  have s36 := b36.size
  constructor
  · have h8 : ∀ k, k ≠ sp → ((w7.setCell ⟨sp, 2, none⟩ (.bool false)).setCell ⟨sp, 1, none⟩ (.map (some mb2))).heap[k]? = w7.heap[k]? := fun k hk => (Below.heap_setCell _ _ _ _ hk).trans (Below.heap_setCell _ _ _ _ hk)
    obtain ⟨bt1, bt2⟩ := bt _ h8 (by simp [World.setCell]) rfl rfl rfl
    have V3 : ∀ k, (V k ∨ z2 ≤ k) ∧ k < w3.heap.size → k < w6.heap.size ∧ B ≤ k ∧ ¬ E k ∧ ¬ G k ∧ k ≠ sp := fun k hk => by
      rcases hk.1 with q | q
      · obtain ⟨v1, v2, v3, v4, v5⟩ := h.vb k q
        exact ⟨by omega, v2, v3, v4, v5⟩
      · exact ⟨by omega, by omega, nE k (by omega), nG k (by omega), by omega⟩
    have km6 := k3.below b36
    have mlt := k3.own.lt
    refine ⟨⟨ws _ h8 (by simp [World.setCell]), ?_, ⟨D2, km6.keep ?_ ?_ (by simp [World.setCell]; omega)⟩, fun k hk => ?_, ⟨h.sb.1, spE, spG⟩, ⟨by omega, n2 _ (by omega) (nE _ hm2), m2 _ (by omega) (nG _ hm2)⟩⟩, ne, ng, ?_, bt1, bt2⟩
    · exact (blk_set (blk_set st7 2 _) 1 _).trans rfl
    · exact (h8 mb2 (by omega)).trans (off7 mb2 (by omega) (nE _ hm2) (nG _ hm2))
    · intro k hk _
      obtain ⟨v1, v2, v3, v4, v5⟩ := V3 k hk
      exact (h8 k v5).trans (off7 k v1 v3 v4)
    · obtain ⟨v1, v2, v3, v4, v5⟩ := V3 k hk
      exact ⟨by simp [World.setCell]; omega, v2, n2 k v1 v3, m2 k v1 v4, v5⟩
    · rintro k hk ⟨q | q, _⟩
      · exact q
      · omega
  · intro b
    have h8 : ∀ k, k ≠ sp → (w7.setCell ⟨sp, 2, none⟩ (.bool b)).heap[k]? = w7.heap[k]? := fun k hk => Below.heap_setCell _ _ _ _ hk
    obtain ⟨bt1, bt2⟩ := bt _ h8 (by simp [World.setCell]) rfl rfl rfl
    obtain ⟨D, hk⟩ := h.km
    have mlt := hk.own.lt
    refine ⟨⟨ws _ h8 (by simp [World.setCell]), ?_, ⟨D, hk.keep ?_ ?_ (by simp [World.setCell]; omega)⟩, fun k hk => ?_, ⟨h.sb.1, spE, spG⟩, ⟨h.mm.1, n2 _ (by omega) h.mm.2.1, m2 _ (by omega) h.mm.2.2⟩⟩, ne, ng, fun k _ q => q, bt1, bt2⟩
    · exact (blk_set st7 2 _).trans rfl
    · exact (h8 mb (sp_ne h)).trans ((off7 mb (by omega) h.mm.2.1 h.mm.2.2).trans (b6.block mb mlt))
    · intro k hk _
      obtain ⟨v1, v2, v3, v4, v5⟩ := h.vb k hk
      exact (h8 k v5).trans ((off7 k (by omega) v3 v4).trans (b6.block k v1))
    · obtain ⟨v1, v2, v3, v4, v5⟩ := h.vb k hk
      exact ⟨by simp [World.setCell]; omega, v2, n2 k (by omega) v3, m2 k (by omega) v4, v5⟩
theorem needs1 (b : List UInt8) : Wl.needs [b] = Wl.need b := by simp [Wl.needs]
/-- What a commit leaves. -/
def SOk (w : World) (B : Nat) (E G V : Nat → Prop) (sp pw q : Nat) (y : Int × VS × Dk.D) (L L2 : List St.KV) (e : Ending) (w' : World) : Prop :=
  e = .returned (.int .i64 y.1) ∧ ∃ E2 G2 V2 mb2, SStep w w' B E G V E2 G2 V2 sp pw q mb2 y.2.1 y.2.2 (if y.1 = 0 then L2 else L) (decide (y.1 = 50))

set_option maxHeartbeats 2000000 in
set_option maxRecDepth 100000 in
theorem commit_c {w : World} {B B' : Nat} {E G V : Nat → Prop} {sp pw q mb : Nat} {s : VS} {d : Dk.D} {L L2 : List St.KV} {b1 b2 : List UInt8} {A : Option Addr} {nl c : Nat} {ms : List MPu} {tp tb : TypeId} (h : SS w B E G V sp pw q mb s d L false) (hB : B ≤ w.heap.size) (so : s.over = false) (hd : d.ok) (hl : d.left ≤ 9223372036854775807) (hcl : d.cache.length ≤ 1000000)
    (ug : U64 (s.g + 1)) (ut : U64 (s.h + Wl.needs s.l + Wl.needs [b1])) (h3 : 3 ≤ d.s.length) (hu : UL w B' tp tb A ms) (hn : nl = ms.length) (h0 : 0 < ms.length) (h1 : ms.length ≤ 4096) (hm : ∀ m ∈ ms, m.p.k.length < 128 ∧ m.p.v.length ≤ 60000) (e2 : St.hap L (pus ms) = L2) (hL : ∀ x ∈ L2, x.1.length < 128 ∧ x.2.length ≤ 60000) (hLn : L2.length ≤ 4096) (hLo : L.length ≤ 4096)
    (eb1 : St.bts false (pus ms) = b1) (eb2 : St.bts true (St.puts L2) = b2) (hb1 : b1.length ≤ 60000) (hb2 : b2.length ≤ 60000) (hf : Wl.need b1 + Wl.need b2 ≤ Wl.ring d - Wl.needs s.l) :
    Calls Tryz.prog 16 #[.pointer (some ⟨sp, 0, none⟩), .slice A nl c] w (SOk w B E G V sp pw q (vchg s d 0 [b1]) L L2) := by
  have hr : Wl.roomE (Wl.ring d - Wl.needs s.l) [b1] = 0 := Wl.roomE_ok (by simpa using hb1) (by rw [needs1]; omega)
  have hye := vchg_err (gone := 0) so hr h3
  obtain ⟨er, s2, d2, hy⟩ : ∃ er s2 d2, vchg s d 0 [b1] = (er, s2, d2) := ⟨_, _, _, rfl⟩
  rw [hy] at hye ⊢
  have AD : Hid (∀ (wz : World) (A1 : Option Addr) (c1 : Nat) (AT : Option Addr), CWD wz E G pw q s d → Txs wz G AT [⟨b1, A1, c1⟩] → Calls Tryz.prog 42 #[.pointer (some ⟨pw, 0, none⟩), .slice AT 1 1] wz (VOk E G pw q (er, s2, d2) wz)) := Lib.hid fun wz A1 c1 AT x ht => by
    have z := vAdd_c (c := 1) (n := 1) x hd hl hcl ug ht rfl (by omega) ut
    have ez : txs [(⟨b1, A1, c1⟩ : MTx)] = [b1] := rfl
    rw [ez, hy] at z
    exact z
  have SH : Hid (Calls Tryz.prog 45 #[.bool false, .slice A nl c] w (BErrOk w.heap.size 0 b1 w)) := Lib.hid (by
    have z := short_c (all := false) (c := c) hu hn h1 hm (by rw [eb1]; exact hb1)
    rw [eb1] at z
    exact z)
  have AL : Hid (∀ (wz : World) (V3 : Nat → Prop) (m3 n3 : Nat) (D3 : DataW Value), KM wz V3 m3 n3 D3 L2 → Calls Tryz.prog 47 #[.map (some m3)] wz (BErrOk wz.heap.size 0 b2 wz)) := Lib.hid fun wz V3 m3 n3 D3 k3 => by
    have z := all_c k3 hLn hL (by rw [eb2]; exact hb2)
    rw [eb2] at z
    exact z
  have HP : Hid (∀ (wz : World) (V3 : Nat → Prop) (m3 : Nat) (D3 : DataW Value), UL wz wz.heap.size 0 0 A ms → KM wz V3 m3 L.length D3 L → (∀ k, wz.heap.size ≤ k → V3 k) → (∀ k, V3 k → k ≠ m3) → Calls Tryz.prog 43 #[.map (some m3), .slice A nl c] wz fun e w' => e = .returned (.tuple #[]) ∧ (∃ n' D', n' ≤ L.length + ms.length ∧ KM w' V3 m3 n' D' L2) ∧ But (fun k => k = m3) wz.heap.size wz w') := Lib.hid fun wz V3 m3 D3 u3 k3 v1 v2 => by
    have z := happen_c (c := c) u3 hn (by omega) (fun m hm' => ⟨by have := (hm m hm').1; omega, (hm m hm').2⟩) k3 v1 v2 (by omega)
    rw [e2] at z
    exact z
  have U0 := Lib.hid (hu.old (tp' := 0) (tb' := 0))
  have H := Lib.hid h
  have RN := Lib.hid (runs_c h.st)
  have HF := Lib.hid hf
  have HB1 := Lib.hid hb1
  have HB2 := Lib.hid hb2
  have HY := Lib.hid hye
  have nz : ((nl : Int) == 0) = false := by simp; omega
  have hsz := lt_of_block h.st
  clear hu h hf hb1 hb2 hye hm hL eb1 eb2 e2 hy hr ut ug hcl hl hd h3 so h1 hLn hLo h0 hn
  go_enter Tryz.func16, Tryz.ntmps16
  go_wp2_with (go_at_call 44; refine RN.out.mono ?_; rintro e w' ⟨rfl, rfl⟩)
  refine SH.out.mono ?_
  rintro e w1 ⟨A1, n1, c1, rfl, rfl, hc1, ho1, hb1⟩
  have O1 := Lib.hid ho1
  have B1 := Lib.hid hb1
  have S1 := Lib.hid (H.out.keep hb1)
  obtain ⟨f10, f11, f12⟩ := S1.out.st.cells3
  obtain ⟨D1, hk1⟩ := S1.out.km
  have K1 := Lib.hid hk1
  have z1 := hb1.size
  clear ho1 hb1 hk1
  rw [Option.map_some] at f10
  go_wp2_with fail
  refine (mclone_c K1.out).mono ?_
  rintro e w2 ⟨rfl, hk2, hb2⟩
  have K2 := Lib.hid hk2
  have B2 := Lib.hid hb2
  have z2 := hb2.size
  clear hk2 hb2 f10 f11 f12
  have vlt := Lib.hid (fun k q => (S1.out.vb k q).1)
  go_wp2_with fail
  refine (HP.out w2 (fun k => V k ∨ w2.heap.size ≤ k) w1.heap.size D1 ((U0.out.below (Nat.le_refl _) (B1.out.trans (B2.out.mono z1))).more (by omega)) (K2.out.mono (fun k q => .inl q)) (fun k hk => .inr hk) (fun k hk => hk.elim (fun q => by have := vlt.out k q; omega) (fun q => by have := K2.out.own.lt; omega))).mono ?_
  rintro e w3 ⟨rfl, ⟨n3, D3, hn3, hk3⟩, hbut3⟩
  obtain ⟨es2, ck2, hm2, _⟩ := K2.out.own
  have K3 := Lib.hid hk3
  have N3 := Lib.hid hk3.narrow.fit
  have M2 := Lib.hid hbut3
  have z3 := hbut3.size
  have L3 : Hid (Lies w3 0 5 A1 (bcells b1)) := Lib.hid (((lies_own (B := 0) O1.out).below (Nat.zero_le _) B2.out).keepM hm2 (fun b h1 h2 => M2.out.block b h1 h2))
  have B03 := Lib.hid ((B1.out.trans (B2.out.mono z1)).trans ((hbut3.mono (show w.heap.size ≤ w2.heap.size by omega) (fun _ q => q)).below (fun k q e => by have e' : k = w1.heap.size := e; omega)))
  clear hk3 hbut3 hm2
  go_wp2_with fail
  refine (AL.out w3 _ _ _ _ K3.out).mono ?_
  rintro e w4 ⟨A4, n4, c4, rfl, rfl, hc4, ho4, hb4⟩
  have z4 := hb4.size
  have B34 := Lib.hid hb4
  have B04 := Lib.hid (B03.out.trans (hb4.mono (by have := B03.out.size; omega)))
  have S4 := Lib.hid (H.out.keep B04.out)
  have AD2 := Lib.hid (show ((Wl.need b1 : Nat) : Int) + ((Wl.need b2 : Nat) : Int) = ((Wl.need b1 + Wl.need b2 : Nat) : Int) by omega)
  have nb : ∀ b : List UInt8, b.length ≤ 60000 → Wl.need b ≤ 1000 := fun b q => by unfold Wl.need; rw [if_neg (by omega)]; omega
  have nb1 := nb b1 HB1.out
  have nb2 := nb b2 HB2.out
  clear ho4 hb4 nb
  go_wp2_with (go_at_call 49; refine (vNeed_c rfl (by have := HB1.out; have := HB2.out; omega)).mono ?_; rintro e w' ⟨rfl, rfl⟩)
  rw [AD2.out]
  refine (room_c S4.out HF.out).mono ?_
  rintro e w5 ⟨rfl, rfl⟩
  obtain ⟨f40, f41, f42⟩ := S4.out.st.cells3
  rw [Option.map_some] at f40
  go_wp2_with fail
  have B46 : Below w4.heap.size w4 (w4.alloc (.cells #[.slice A1 b1.length c1] 23)).drew := ((Below.refl _ w4).alloc (Nat.le_refl _) _).drew
  have sz6 : (w4.alloc (.cells #[.slice A1 b1.length c1] 23)).drew.heap.size = w4.heap.size + 1 := by show (w4.alloc _).heap.size = _; simp
  have TX : Txs (w4.alloc (.cells #[.slice A1 b1.length c1] 23)).drew G (some ⟨w4.heap.size, 0, none⟩) [⟨b1, A1, c1⟩] :=
    txs_one (wz := w4.drew) (base := w.heap.size) (L3.out.below (Nat.zero_le _) B34.out.drew) rfl hc1 (fun ad e => ⟨InF.of_own (F := fun k => w.heap.size ≤ k) O1.out (fun k hk => hk) ad e, by have := own_lt O1.out ad e; show ad.block < w4.heap.size; omega⟩) H.out.ws.x.go (by show _ ≤ w4.heap.size; omega) (by have := HB1.out; omega) rfl
  have ADD := Lib.hid (AD.out _ A1 c1 _ (S4.out.ws.x.keep B46) TX)
  have WS6 := Lib.hid (S4.out.ws.keep B46)
  have B36 := Lib.hid (B34.out.trans (B46.mono z4))
  have B06 := Lib.hid (B04.out.trans (B46.mono (by omega)))
  have SZ6 := Lib.hid sz6
  clear B46 TX sz6 f40 f41 f42 nb1 nb2
  refine ADD.out.mono ?_
  rintro e w7 hv
  obtain ⟨rfl, E2, G2, stp⟩ := VOk.step WS6.out (by have := SZ6.out; omega) hv
  have st7 : ST w7 sp (some pw) mb false := (stp.but.block sp (by have := SZ6.out; omega) (fun z => z.elim H.out.sb.2.1 H.out.sb.2.2)).trans ((B06.out.block sp hsz).trans H.out.st)
  obtain ⟨r1, r2⟩ := commit_end H.out hB B06.out (by omega) N3.out z1 B36.out stp
  have R1 := Lib.hid r1
  have R2 := Lib.hid r2
  clear r1 r2 hv stp
  rcases HY.out with q | q
  · have q' : er = 0 := q
    subst q'
    have bh := behind_c st7 0
    rw [show decide ((0 : Int) = 50) = false from rfl] at bh
    have BH := Lib.hid bh
    clear bh st7
    go_wp2_with (go_at_call 50; refine BH.out.mono ?_; rintro e w8 ⟨rfl, st8, rfl⟩; obtain ⟨f80, f81, f82⟩ := st8.cells3; have f8 := blk_free st8 1)
    go_ret
    exact ⟨rfl, E2, G2, _, _, R1.out⟩
  · have q' : er = 50 := q
    subst q'
    have bh := behind_c st7 50
    rw [show decide ((50 : Int) = 50) = true from rfl] at bh
    have BH := Lib.hid bh
    clear bh st7
    go_wp2_with (go_at_call 50; refine BH.out.mono ?_; rintro e w8 ⟨rfl, st8, rfl⟩)
    go_ret
    exact ⟨rfl, E2, G2, _, _, R2.out true⟩
end

section
open Go.RowKit Go.Maps Go.Shelf

set_option maxHeartbeats 2000000 in
set_option maxRecDepth 100000 in
theorem compact_c {w : World} {B : Nat} {E G V : Nat → Prop} {sp pw q mb : Nat} {s : VS} {d : Dk.D} {L : List St.KV} {b2 : List UInt8} (h : SS w B E G V sp pw q mb s d L false) (hB : B ≤ w.heap.size) (so : s.over = false) (hd : d.ok) (hl : d.left ≤ 9223372036854775807) (hcl : d.cache.length ≤ 1000000)
    (ug : U64 (s.g + 1)) (ut : U64 (s.h + Wl.needs s.l + Wl.needs [b2])) (h3 : 3 ≤ d.s.length) (hL : ∀ x ∈ L, x.1.length < 128 ∧ x.2.length ≤ 60000) (hLn : L.length ≤ 4096)
    (eb2 : St.bts true (St.puts L) = b2) (hb2 : b2.length ≤ 60000) (hf : Wl.need b2 ≤ Wl.ring d - Wl.needs s.l) :
    Calls Tryz.prog 19 #[.pointer (some ⟨sp, 0, none⟩)] w (SOk w B E G V sp pw q (vchg s d s.l.length [b2]) L L) := by
  have hr : Wl.roomE (Wl.ring d - Wl.needs s.l) [b2] = 0 := Wl.roomE_ok (by simpa using hb2) (by rw [needs1]; omega)
  have hye := vchg_err (gone := s.l.length) so hr h3
  obtain ⟨er, s2, d2, hy⟩ : ∃ er s2 d2, vchg s d s.l.length [b2] = (er, s2, d2) := ⟨_, _, _, rfl⟩
  rw [hy] at hye ⊢
  have AD : Hid (∀ (wz : World) (A1 : Option Addr) (c1 : Nat) (AT : Option Addr), CWD wz E G pw q s d → Txs wz G AT [⟨b2, A1, c1⟩] → Calls Tryz.prog 51 #[.pointer (some ⟨pw, 0, none⟩), .slice AT 1 1] wz (VOk E G pw q (er, s2, d2) wz)) := Lib.hid fun wz A1 c1 AT x ht => by
    have z := vSwap_c (c := 1) (n := 1) x hd hl hcl ug ht rfl (by omega) ut
    have ez : txs [(⟨b2, A1, c1⟩ : MTx)] = [b2] := rfl
    rw [ez, hy] at z
    exact z
  obtain ⟨D, hk⟩ := h.km
  have AL : Hid (Calls Tryz.prog 47 #[.map (some mb)] w (BErrOk w.heap.size 0 b2 w)) := Lib.hid (by
    have z := all_c hk hLn hL (by rw [eb2]; exact hb2)
    rw [eb2] at z
    exact z)
  have NK := Lib.hid hk
  have H := Lib.hid h
  have RN := Lib.hid (runs_c h.st)
  have HB2 := Lib.hid hb2
  have HY := Lib.hid hye
  have hsz := lt_of_block h.st
  obtain ⟨f0, f1, f2⟩ := h.st.cells3
  clear h hf hb2 hye hL eb2 hy hr ut ug hcl hl hd h3 so hLn hk
  rw [Option.map_some] at f0
  go_enter Tryz.func19, Tryz.ntmps19
  go_wp2_with (go_at_call 44; refine RN.out.mono ?_; rintro e w' ⟨rfl, rfl⟩)
  refine AL.out.mono ?_
  rintro e w4 ⟨A1, n1, c1, rfl, rfl, hc1, ho1, hb1⟩
  have O1 := Lib.hid ho1
  have B04 := Lib.hid hb1
  have S4 := Lib.hid (H.out.keep hb1)
  have z4 := hb1.size
  obtain ⟨f40, f41, f42⟩ := S4.out.st.cells3
  rw [Option.map_some] at f40
  clear ho1 hb1 f0 f1 f2
  go_wp2_with fail
  have B46 : Below w4.heap.size w4 (w4.alloc (.cells #[.slice A1 b2.length c1] 23)) := (Below.refl _ w4).alloc (Nat.le_refl _) _
  have sz6 : (w4.alloc (.cells #[.slice A1 b2.length c1] 23)).heap.size = w4.heap.size + 1 := by simp
  have TX : Txs (w4.alloc (.cells #[.slice A1 b2.length c1] 23)) G (some ⟨w4.heap.size, 0, none⟩) [⟨b2, A1, c1⟩] :=
    txs_one (wz := w4) (base := w.heap.size) (lies_own O1.out) rfl hc1 (fun ad e => ⟨InF.of_own (F := fun k => w.heap.size ≤ k) O1.out (fun k hk => hk) ad e, own_lt O1.out ad e⟩) H.out.ws.x.go z4 (by have := HB2.out; omega) rfl
  have ADD := Lib.hid (AD.out _ A1 c1 _ (S4.out.ws.x.keep B46) TX)
  have WS6 := Lib.hid (S4.out.ws.keep B46)
  have B06 := Lib.hid (B04.out.trans (B46.mono z4))
  have SZ6 := Lib.hid sz6
  clear B46 TX sz6 f40 f41 f42
  refine ADD.out.mono ?_
  rintro e w7 hv
  obtain ⟨rfl, E2, G2, stp⟩ := VOk.step WS6.out (by have := SZ6.out; omega) hv
  have st7 : ST w7 sp (some pw) mb false := (stp.but.block sp (by have := SZ6.out; omega) (fun z => z.elim H.out.sb.2.1 H.out.sb.2.2)).trans ((B06.out.block sp hsz).trans H.out.st)
  have r2 := compact_end H.out hB B06.out stp
  have R2 := Lib.hid r2
  clear r2 hv stp
  rcases HY.out with q | q
  · have q' : er = 0 := q
    subst q'
    have bh := behind_c st7 0
    rw [show decide ((0 : Int) = 50) = false from rfl] at bh
    have BH := Lib.hid bh
    clear bh st7
    go_wp2_with (go_at_call 50; refine BH.out.mono ?_; rintro e w8 ⟨rfl, st8, rfl⟩)
    go_ret
    exact ⟨rfl, E2, G2, _, _, R2.out false⟩
  · have q' : er = 50 := q
    subst q'
    have bh := behind_c st7 50
    rw [show decide ((50 : Int) = 50) = true from rfl] at bh
    have BH := Lib.hid bh
    clear bh st7
    go_wp2_with (go_at_call 50; refine BH.out.mono ?_; rintro e w8 ⟨rfl, st8, rfl⟩)
    go_ret
    exact ⟨rfl, E2, G2, _, _, R2.out true⟩

theorem keys_c {w : World} {sp mb : Nat} {pw : Option Nat} {over : Bool} (h : ST w sp pw mb over) (s : ByteArray) : Calls Tryz.prog 21 #[.pointer (some ⟨sp, 0, none⟩), .string s] w fun e w' => e = .returned (.func (.func 78) #[] #[.pointer (some ⟨w.heap.size, 0, none⟩), .pointer (some ⟨w.heap.size + 1, 0, none⟩)]) ∧
    w' = (w.alloc (.cells #[.map (some mb)] 87)).alloc (.cells #[.string s] 9) := by
  obtain ⟨c0, c1, c2⟩ := h.cells3
  clear h
  go_enter Tryz.func21, Tryz.ntmps21
  go_wp2_with (go_at_call 54; refine (told_c _ _ _).mono ?_; rintro e w' ⟨rfl, rfl⟩)
  go_ret
  exact ⟨rfl, rfl⟩
end
end Go.Proofs.YtpnfpeeijghamaaGreat
