/- Stage 8: the document's SamePuts. Stage 8: the document's Happen. -/
import Derived.Test.YtpnfpeeijghamaaGreatEb
import Derived.MapKept
import Derived.Deep.RegionHeld3
import Derived.Test.YtpnfpeeijghamaaGreatEo
import Derived.Laws.Cover1
import Derived.Sort.Walk0
namespace Go.Proofs.YtpnfpeeijghamaaGreat
set_option maxRecDepth 100000

section
open Go.RowKit

theorem str_eq (k l : List UInt8) : (str k == str l) = (k == l) := by
  rw [Bool.eq_iff_iff, Go.MapKept.bytes_beq, beq_iff_eq]
  exact ⟨fun e => by have e2 := congrArg ByteArray.data e; simpa [str] using e2, fun e => by rw [e]⟩
theorem str_ne (k l : List UInt8) : (str k != str l) = !(k == l) := by show (!(str k == str l)) = _; rw [str_eq]
theorem pus_ne {ms ks : List MPu} {k : Nat} {m m2 : MPu} (h : ms[k]? = some m) (h2 : ks[k]? = some m2) (hne : m.p ≠ m2.p) : ¬ pus ms = pus ks := fun e => by
  have e1 := congrArg (·[k]?) e
  simp only [pus, List.getElem?_map, h, h2, Option.map_some, Option.some.injEq] at e1
  exact hne e1
theorem pu_ext {a b : St.Pu} (h1 : a.k = b.k) (h2 : a.v = b.v) (h3 : a.g = b.g) : a = b := by
  cases a; cases b; simp_all

instance decPu : DecidableEq St.Pu := fun a b => decidable_of_iff (a.k = b.k ∧ a.v = b.v ∧ a.g = b.g) ⟨fun h => pu_ext h.1 h.2.1 h.2.2, fun e => by rw [e]; exact ⟨rfl, rfl, rfl⟩⟩

set_option maxHeartbeats 2000000 in
set_option maxRecDepth 100000 in
theorem samePuts_c {A A2 : Option Addr} {n c n2 c2 : Nat} {ms ks : List MPu} {w : World} {B B2 : Nat} {tt tb tt2 tb2 : TypeId} (h : UL w B tt tb A ms) (h2 : UL w B2 tt2 tb2 A2 ks) (hn : n = ms.length) (hn2 : n2 = ks.length) (hs : n ≤ 1000000000) :
    Calls Tryz.prog 12 #[.slice A n c, .slice A2 n2 c2] w fun e w' => e = .returned (.bool (decide (pus ms = pus ks))) ∧ ∃ j, w' = w.drewN j := by
  have H := Lib.hid h
  have H2 := Lib.hid h2
  have HN := Lib.hid hn
  have HN2 := Lib.hid hn2
  clear h h2 hn hn2
  by_cases hl : n = n2
  · subst hl
    have HL := Lib.hid (HN.out.symm.trans HN2.out)
    go_enter Tryz.func12, Tryz.ntmps12
    go_wp2_with fail
    go_loopw [13] (fun i wr => ∃ k j : Nat, k ≤ n ∧ i = .int .i64 k ∧ pus (ms.take k) = pus (ks.take k) ∧ wr = w.drewN j) (fun i _ => n - (intOf i).toNat)
    case atStart => exact ⟨0, 0, Nat.zero_le _, rfl, rfl, rfl⟩
    case round =>
      obtain ⟨k, j, hk, rfl, he, rfl⟩ := hrel
      have HE := Lib.hid he
      clear he
      by_cases hlt : k < n
      · obtain ⟨ad, m, rfl, hm, hf, a0, a1, a2⟩ := H.out.at_ (k := k) (by rw [← HN.out]; exact hlt)
        obtain ⟨ad2, m2, rfl, hm2, hf2, b0, b1, b2⟩ := H2.out.at_ (k := k) (by rw [← HN2.out]; exact hlt)
        have HM := Lib.hid hm
        have HM2 := Lib.hid hm2
        have cv1 := conv_at (c := m.c) (hf.1.drewN (j + 1)) rfl
        have cv2 := conv_at (c := m2.c) (hf2.1.drewN (j + 1)) rfl
        clear hm hm2 hf hf2
        have k0 : 0 ≤ (k : Int) := by omega
        have k1 : (k : Int) < (n : Int) := by omega
        have ek := str_eq m.p.k m2.p.k
        have ek' := str_ne m.p.k m2.p.k
        have ev := str_eq m.p.v m2.p.v
        have ev' := str_ne m.p.v m2.p.v
        cases q1 : (m.p.k == m2.p.k)
        · rw [q1] at ek ek'
          rw [Bool.not_false] at ek'
          have NE := Lib.hid (pus_ne HM.out HM2.out (fun e => by rw [e] at q1; simp at q1))
          go_wp2_with fail
          go_region
          go_wp2
          go_ret
          exact ⟨ret_bool (by rw [decide_eq_false NE.out]), j + 1, rfl⟩
        · rw [q1] at ek ek'
          rw [Bool.not_true] at ek'
          cases q2 : (m.p.v == m2.p.v)
          · rw [q2] at ev ev'
            rw [Bool.not_false] at ev'
            have NE := Lib.hid (pus_ne HM.out HM2.out (fun e => by rw [e] at q2; simp at q2))
            go_wp2_with fail
            go_region
            go_wp2
            go_ret
            exact ⟨ret_bool (by rw [decide_eq_false NE.out]), j + 1, rfl⟩
          · rw [q2] at ev ev'
            rw [Bool.not_true] at ev'
            cases q3 : (m.p.g == m2.p.g)
            · have q3' : (m.p.g != m2.p.g) = true := by rw [bne, q3]; rfl
              have NE := Lib.hid (pus_ne HM.out HM2.out (fun e => by rw [e] at q3; simp at q3))
              go_wp2_with fail
              go_region
              go_wp2
              go_ret
              exact ⟨ret_bool (by rw [decide_eq_false NE.out]), j + 1, rfl⟩
            · have q3' : (m.p.g != m2.p.g) = false := by rw [bne, q3]; rfl
              have EQ := Lib.hid (pu_ext (a := m.p) (b := m2.p) (by simpa using q1) (by simpa using q2) (by simpa using q3))
              go_wp2_with fail
              go_region
              go_wp2
              go_roundw
              case rel => exact ⟨k + 1, j + 1, by omega, by go_num, by rw [take_next HM.out, take_next HM2.out, pus_snoc, pus_snoc, HE.out, EQ.out], rfl⟩
              case measure => simp [intOf]; omega
      · obtain rfl : k = n := by omega
        have HE2 := HE.out
        rw [show ms.take k = ms from by rw [HN.out]; exact List.take_length, show ks.take k = ks from by rw [HN2.out]; exact List.take_length] at HE2
        have E := Lib.hid HE2
        clear HE2
        go_wp2
        go_ret
        exact ⟨ret_bool (by rw [decide_eq_true E.out]), j, rfl⟩
  · have ne : ¬ pus ms = pus ks := fun e => hl (by have := congrArg List.length e; rw [pus_len, pus_len] at this; rw [HN.out, HN2.out, this])
    have NE := Lib.hid ne
    have e1 : ((n : Int) != (n2 : Int)) = true := by simp; omega
    have e2 : ((n : Int) == (n2 : Int)) = false := by simp; omega
    clear ne
    go_enter Tryz.func12, Tryz.ntmps12
    go_wp2
    go_ret
    exact ⟨ret_bool (by rw [decide_eq_false NE.out]), 0, rfl⟩
end

section
open Go.RowKit Go.Shelf Go.Maps

namespace St
theorem rstep_ins1 {p : Pu} {S : List KV} {x : KV} (h : p.k < x.1) : rstep p (S, false) x = (S ++ [(p.k, p.v)] ++ [x], true) := by
  unfold rstep
  rw [if_pos ⟨rfl, h⟩, if_neg (fun e => by rw [e] at h; exact List.lt_irrefl _ h)]
theorem rstep_same {p : Pu} {S : List KV} {x : KV} {dn : Bool} (h : x.1 = p.k) : rstep p (S, dn) x = (S, dn) := by
  unfold rstep
  rw [if_neg (fun q => by have := q.2; rw [h] at this; exact List.lt_irrefl _ this), if_pos h, List.append_nil]
theorem rstep_on {p : Pu} {S : List KV} {x : KV} {dn : Bool} (h : x.1 ≠ p.k) (h2 : dn = true ∨ ¬ p.k < x.1) : rstep p (S, dn) x = (S ++ [x], dn) := by
  unfold rstep
  rw [if_neg (fun q => h2.elim (fun e => by rw [e] at q; exact absurd q.1 (by simp)) (fun e => e q.2)), if_neg h]
theorem puts_snoc (S : List KV) (x : KV) : puts (S ++ [x]) = puts S ++ [⟨x.1, x.2, false⟩] := by simp [puts]
end St

/-- What became of a list of keys and values. -/
def HapOk (Q : MPu → Prop) (A0 : Option Addr) (M : List St.KV) (w : World) (e : Ending) (w' : World) : Prop :=
  ∃ (A : Option Addr) (ms : List MPu) (c : Nat), e = .returned (.slice A ms.length c) ∧ pus ms = St.puts M ∧ UL w' w'.heap.size 0 0 A ms ∧ (∀ m ∈ ms, Q m) ∧ (A = A0 ∨ InF (fun k => w.heap.size ≤ k ∧ k < w'.heap.size) A) ∧ Below w.heap.size w w'
/-- Between two rounds of the inner loop. -/
def HapIn (R : MPu → Prop) (wp : World) (L1 : List St.KV) (x : MPu) (j : Nat) (dn : Bool) (ms2 : List MPu) (A2 : Option Addr) (c2 : Nat) (wi : World) : Prop :=
  wi.ownsRow wp.heap.size 33 3 (.slice A2 ms2.length c2) ms2.length (pcells ms2) ∧ Below wp.heap.size wp wi ∧ (∀ m ∈ ms2, R m) ∧ ms2.length ≤ 2 * j ∧ ∃ S, pus ms2 = St.puts S ∧ (L1.take j).foldl (St.rstep x.p) ([], x.p.g) = (S, dn)
theorem HapIn.start (R : MPu → Prop) (wp : World) (L1 : List St.KV) (x : MPu) : HapIn R wp L1 x 0 x.p.g [] none 0 wp :=
  ⟨World.ownsRow_nil _ _ _ _, Below.refl _ _, by simp, by simp, [], rfl, rfl⟩
theorem own_near {w : World} {B : Nat} {e : TypeId} {size n : Nat} {v : Value} {xs : List Value} (h : w.ownsRow B e size v n xs) : ∀ b, v.ownBlock = some b → B ≤ b ∧ b < w.heap.size := fun b hb => by
  obtain ⟨q, cs, fr, r⟩ := own_row h b hb
  exact ⟨q, lt_of_block r⟩

theorem puts_at {ms : List MPu} {L : List St.KV} (h : pus ms = St.puts L) {j : Nat} {m : MPu} (hm : ms[j]? = some m) : ∃ kv, L[j]? = some kv ∧ m.p = ⟨kv.1, kv.2, false⟩ := by
  have e := congrArg (·[j]?) h
  simp only [pus, St.puts, List.getElem?_map, hm, Option.map_some] at e
  cases q : L[j]? with
  | none => rw [q] at e; cases e
  | some kv =>
    rw [q, Option.map_some] at e
    injection e with e
    exact ⟨kv, rfl, e⟩
section
variable {wp wi w9 : World} {L1 : List St.KV} {R : MPu → Prop} {x m : MPu} {j : Nat} {dn : Bool} {ms2 : List MPu} {A2 A9 : Option Addr} {c2 k9 : Nat} {kv : St.KV}
theorem HapIn.far (h : HapIn R wp L1 x j dn ms2 A2 c2 wi) (o : Obj) : HapIn R wp L1 x j dn ms2 A2 c2 (wi.alloc o) :=
  ⟨h.1.alloc o, h.2.1.alloc h.2.1.size o, h.2.2⟩
theorem HapIn.same (h : HapIn R wp L1 x j dn ms2 A2 c2 wi) (hkv : L1[j]? = some kv) (hs : kv.1 = x.p.k) : HapIn R wp L1 x (j + 1) dn ms2 A2 c2 wi := by
  obtain ⟨h1, h2, h3, h4, S, h5, h6⟩ := h
  refine ⟨h1, h2, h3, by omega, S, h5, ?_⟩
  rw [take_next hkv, List.foldl_append, h6, List.foldl_cons, List.foldl_nil, St.rstep_same hs]
theorem HapIn.on (h : HapIn R wp L1 x j dn ms2 A2 c2 wi) (hkv : L1[j]? = some kv) (hmp : m.p = ⟨kv.1, kv.2, false⟩) (hs : kv.1 ≠ x.p.k) (hd : dn = true ∨ ¬ x.p.k < kv.1) (hm : R m) (ho : w9.ownsRow wp.heap.size 33 3 (.slice A9 (ms2.length + 1) k9) (ms2.length + 1) (pcells ms2 ++ m.cells)) (hB : Below wp.heap.size wi w9) :
    HapIn R wp L1 x (j + 1) dn (ms2 ++ [m]) A9 k9 w9 := by
  obtain ⟨h1, h2, h3, h4, S, h5, h6⟩ := h
  have el : (ms2 ++ [m]).length = ms2.length + 1 := by simp
  refine ⟨by rw [el, pcells_snoc]; exact ho, h2.trans hB, fun q hq => ?_, by rw [el]; omega, S ++ [kv], by rw [pus_snoc, h5, St.puts_snoc, hmp], ?_⟩
  · rw [List.mem_append, List.mem_singleton] at hq
    exact hq.elim (h3 q) (fun e => by rw [e]; exact hm)
  · rw [take_next hkv, List.foldl_append, h6, List.foldl_cons, List.foldl_nil, St.rstep_on hs hd]
/-- The put itself. -/
def MPu.nw (x : MPu) : MPu := ⟨⟨x.p.k, x.p.v, false⟩, x.A, x.c⟩
theorem HapIn.two (h : HapIn R wp L1 x j false ms2 A2 c2 wi) (hkv : L1[j]? = some kv) (hmp : m.p = ⟨kv.1, kv.2, false⟩) (hs : x.p.k < kv.1) (hx : R x.nw) (hm : R m) (ho : w9.ownsRow wp.heap.size 33 3 (.slice A9 (ms2.length + 1 + 1) k9) (ms2.length + 1 + 1) (pcells ms2 ++ x.nw.cells ++ m.cells)) (hB : Below wp.heap.size wi w9) :
    HapIn R wp L1 x (j + 1) true (ms2 ++ [x.nw] ++ [m]) A9 k9 w9 := by
  obtain ⟨h1, h2, h3, h4, S, h5, h6⟩ := h
  have el : (ms2 ++ [x.nw] ++ [m]).length = ms2.length + 1 + 1 := by simp
  refine ⟨by rw [el, pcells_snoc, pcells_snoc]; exact ho, h2.trans hB, fun q hq => ?_, by rw [el]; omega, S ++ [(x.p.k, x.p.v)] ++ [kv], by rw [pus_snoc, pus_snoc, h5, St.puts_snoc, St.puts_snoc, hmp]; rfl, ?_⟩
  · rw [List.mem_append, List.mem_append, List.mem_singleton, List.mem_singleton] at hq
    exact hq.elim (fun z => z.elim (h3 q) (fun e => by rw [e]; exact hx)) (fun e => by rw [e]; exact hm)
  · rw [take_next hkv, List.foldl_append, h6, List.foldl_cons, List.foldl_nil, St.rstep_ins1 hs]
/-- All have been looked at. -/
theorem HapIn.fin (hR : ∀ m, R m → m.fine wp wp.heap.size 0) (h : HapIn R wp L1 x L1.length true ms2 A2 c2 wi) : pus ms2 = St.puts (St.rhap1 L1 x.p) ∧ UL wi wi.heap.size 0 0 A2 ms2 ∧ (∀ m ∈ ms2, R m) ∧ InF (fun k => wp.heap.size ≤ k ∧ k < wi.heap.size) A2 := by
  obtain ⟨h1, h2, h3, h4, S, h5, h6⟩ := h
  rw [List.take_length] at h6
  refine ⟨by rw [h5]; unfold St.rhap1; rw [h6]; simp, ⟨(lies_own (B := 0) h1).old, fun m hm => ?_⟩, h3, fun ad e => ⟨InF.of_own (F := fun k => wp.heap.size ≤ k) h1 (fun k hk => hk) ad e, own_lt h1 ad e⟩⟩
  have z := (hR m (h3 m hm)).below (Nat.le_refl _) h2
  exact ⟨z.1.more h2.size, z.2⟩
theorem HapIn.last (hR : ∀ m, R m → m.fine wp wp.heap.size 0) (h : HapIn R wp L1 x L1.length false ms2 A2 c2 wi) (hx : R x.nw) (ho : w9.ownsRow wp.heap.size 33 3 (.slice A9 (ms2.length + 1) k9) (ms2.length + 1) (pcells ms2 ++ x.nw.cells)) (hB : Below wp.heap.size wi w9) :
    pus (ms2 ++ [x.nw]) = St.puts (St.rhap1 L1 x.p) ∧ UL w9 w9.heap.size 0 0 A9 (ms2 ++ [x.nw]) ∧ Below wp.heap.size wp w9 ∧ (∀ m ∈ ms2 ++ [x.nw], R m) ∧ InF (fun k => wp.heap.size ≤ k ∧ k < w9.heap.size) A9 := by
  obtain ⟨h1, h2, h3, h4, S, h5, h6⟩ := h
  rw [List.take_length] at h6
  have b9 := h2.trans hB
  have hall : ∀ m ∈ ms2 ++ [x.nw], R m := fun m hm => by
    rw [List.mem_append, List.mem_singleton] at hm
    exact hm.elim (h3 m) (fun e => by rw [e]; exact hx)
  refine ⟨by rw [pus_snoc, h5]; unfold St.rhap1; rw [h6, if_neg (by simp), St.puts_snoc]; rfl, ⟨?_, fun m hm => ?_⟩, b9, hall, fun ad e => ⟨InF.of_own (F := fun k => wp.heap.size ≤ k) ho (fun k hk => hk) ad e, own_lt ho ad e⟩⟩
  · rw [pcells_snoc]
    exact (lies_own (B := 0) ho).old
  · have z2 := (hR m (hall m hm)).below (Nat.le_refl _) b9
    exact ⟨z2.1.more b9.size, z2.2⟩
end

set_option maxHeartbeats 4000000 in
set_option maxRecDepth 100000 in
theorem happenR_c {A A2 : Option Addr} {n c n2 c2 : Nat} {ms ks : List MPu} {L : List St.KV} {w : World} {B B2 : Nat} {tp tb tp2 tb2 : TypeId} {Q : MPu → Prop} (h : UL w B tp tb A ms) (hq1 : ∀ m ∈ ms, Q m) (hL : pus ms = St.puts L) (hs : St.Srt L) (h2 : UL w B2 tp2 tb2 A2 ks) (hq2 : ∀ m ∈ ks, Q m.nw) (hn : n = ms.length) (hn2 : n2 = ks.length) (hb1 : ms.length ≤ 100000) (hb2 : ks.length ≤ 100000) :
    Calls Tryz.prog 17 #[.slice A n c, .slice A2 n2 c2] w (HapOk Q A (St.hap L (pus ks)) w) := by
  have H := Lib.hid (h.old (tp' := 0) (tb' := 0))
  have H2 := Lib.hid (h2.old (tp' := 0) (tb' := 0))
  have HL := Lib.hid hL
  have HS := Lib.hid hs
  have Q1 := Lib.hid hq1
  have Q2 := Lib.hid hq2
  have M1 := Lib.hid hb1
  have M2 := Lib.hid hb2
  have N1 := Lib.hid hn
  obtain ⟨i0, hi, iz0, iz1, iz2⟩ := info_parts Tryz.infoPut
  clear h h2 hL hs hb1 hb2 hq1 hq2
  subst hn2
  go_enter Tryz.func17, Tryz.ntmps17
  go_wp2_with fail
  go_loopw [13, 0] (fun i l wr => ∃ (k n1 : Nat) (A1 : Option Addr) (c1 : Nat) (ms1 : List MPu), k ≤ ks.length ∧ i = .int .i64 (k : Int) ∧ l = .slice A1 n1 c1 ∧ n1 = ms1.length ∧ pus ms1 = St.puts (St.hap L (pus (ks.take k))) ∧ UL wr wr.heap.size 0 0 A1 ms1 ∧ (∀ m ∈ ms1, Q m) ∧ (A1 = A ∨ InF (fun k => w.heap.size ≤ k ∧ k < wr.heap.size) A1) ∧ Below w.heap.size w wr) (fun i _ _ => ks.length - (intOf i).toNat)
  case atStart => exact ⟨0, n, A, c, ms, Nat.zero_le _, rfl, rfl, N1.out, by simpa [pus, St.hap] using HL.out, H.out, Q1.out, .inl rfl, Below.refl _ _⟩
  case round =>
    obtain ⟨k, n1, A1, c1, ms1, hk, rfl, rfl, hn1, hp1, hu1, hq, hA1, hb⟩ := hrel
    obtain ⟨w0, hw0⟩ : ∃ w0, w0 = wr := ⟨_, rfl⟩
    subst hw0
    have hzr := hb.size
    by_cases hlt : k < ks.length
    · obtain ⟨ad, x, rfl, hx, hfx, a0, a1, a2⟩ := (H2.out.below (Nat.le_refl _) hb).at_ hlt
      have HX := Lib.hid hx
      obtain ⟨L1, hL1⟩ : ∃ L1, L1 = St.hap L (pus (ks.take k)) := ⟨_, rfl⟩
      rw [← hL1] at hp1
      have E1 : Hid (St.hap L (pus (ks.take (k + 1))) = St.rhap1 L1 x.p) := Lib.hid (by rw [take_next hx, pus_snoc, St.hap_snoc, ← hL1, St.rhap1_eq (by rw [hL1]; exact St.srt_hap HS.out)])
      have ll : ms1.length = L1.length := by
        have := congrArg List.length hp1
        rwa [pus_len, St.puts_len] at this
      have l1 : L1.length ≤ 200000 := by
        rw [hL1]
        have q := St.hap_len (l := pus (ks.take k)) (L := L)
        have z : ms.length = L.length := by
          have := congrArg List.length HL.out
          rwa [pus_len, St.puts_len] at this
        rw [pus_len, List.length_take] at q
        have := M1.out
        have := M2.out
        omega
      have LL := Lib.hid ll
      have ML := Lib.hid l1
      have HP1 := Lib.hid hp1
      have HN1 := Lib.hid hn1
      obtain ⟨wp, hwp⟩ : ∃ wp, w0.alloc (.cells #[.string (str x.p.k), .slice x.A x.p.v.length x.c, .bool x.p.g] 33) = wp := ⟨_, rfl⟩
      have bp : Below w0.heap.size w0 wp := by rw [← hwp]; exact (Below.refl _ w0).alloc (Nat.le_refl _) _
      have sp : wp.heap.size = w0.heap.size + 1 := by rw [← hwp]; simp
      have kp : wp.heap[w0.heap.size]? = some (.cells #[.string (str x.p.k), .slice x.A x.p.v.length x.c, .bool x.p.g] 33 (0, 0)) := by rw [← hwp]; exact heap_alloc_new w0 _
      have hxm := List.mem_of_getElem? hx
      obtain ⟨R, hR⟩ : ∃ R : MPu → Prop, R = fun m => m.fine wp wp.heap.size 0 ∧ Q m := ⟨_, rfl⟩
      have RF : Hid (∀ m, R m → m.fine wp wp.heap.size 0) := Lib.hid (by rw [hR]; exact fun m z => z.1)
      have RQ : Hid (∀ m, R m → Q m) := Lib.hid (by rw [hR]; exact fun m z => z.2)
      have FX : Hid (R x.nw) := Lib.hid (by have z := hfx.below hzr bp; rw [hR]; exact ⟨⟨z.1.more (by omega), z.2⟩, Q2.out x hxm⟩)
      have U1 := Lib.hid ((hu1.below (Nat.le_refl _) bp).more (show w0.heap.size ≤ wp.heap.size by omega))
      have RM : Hid (∀ m ∈ ms1, R m) := Lib.hid (by rw [hR]; exact fun m hm => ⟨U1.out.2 m hm, hq m hm⟩)
      have BP := Lib.hid (hb.trans (bp.mono hzr))
      have KP := Lib.hid kp
      have SP := Lib.hid sp
      obtain ⟨c0, c1', c2'⟩ := three_cells kp
      clear hx hfx hp1 hu1 hb bp kp sp hL1 ll l1 hn1 hq hA1 hR hxm
      go_wp2_with fail
      go_loopw [21, 7, 8] (fun i out dv wi => ∃ (j : Nat) (dn : Bool) (ms2 : List MPu) (A2 : Option Addr) (c2 : Nat), j ≤ n1 ∧ i = .int .i64 (j : Int) ∧ out = .slice A2 ms2.length c2 ∧ dv = .bool dn ∧ HapIn R wp L1 x j dn ms2 A2 c2 wi) (fun i _ _ _ => n1 - (intOf i).toNat)
      case atStart => exact ⟨0, x.p.g, [], none, 0, Nat.zero_le _, rfl, rfl, rfl, HapIn.start R wp L1 x⟩
      case round =>
        obtain ⟨j, dn, ms2, A2, c2, hj, rfl, rfl, rfl, hin⟩ := hrel
        have HI := Lib.hid hin
        have zi := hin.2.1.size
        have kpi := (hin.2.1.block w0.heap.size (by have := SP.out; omega)).trans KP.out
        have lj : n1 ≤ 200000 := by have := HN1.out; have := LL.out; have := ML.out; omega
        have lk : ks.length ≤ 100000 := M2.out
        have LB : Hid (ms2.length ≤ 400000) := Lib.hid (by have := hin.2.2.2.1; have := HN1.out; have := LL.out; have := ML.out; omega)
        clear hin
        by_cases hlt2 : j < n1
        · obtain ⟨ad1, m, rfl, hm, hfm, b0, b1, b2⟩ := (U1.out.below (Nat.le_refl _) HI.out.2.1).at_ (k := j) (by rw [← HN1.out]; exact hlt2)
          have FM := Lib.hid (RM.out m (List.mem_of_getElem? hm))
          obtain ⟨kv, hkv, hmp⟩ := puts_at HP1.out hm
          have HKV := Lib.hid hkv
          have HMP := Lib.hid hmp
          have HK1 : Hid (m.p.k = kv.1) := Lib.hid (by rw [hmp])
          have KPI := Lib.hid kpi
          obtain ⟨p0, p1, p2⟩ := three_cells (blk_alloc kpi (.cells #[.string (str m.p.k), .slice m.A m.p.v.length m.c, .bool m.p.g] 33))
          clear hm hfm hkv hmp kpi c0 c1' c2'
          by_cases hc : m.p.k = x.p.k
          · have qe : (m.p.k == x.p.k) = true := by rw [hc]; exact beq_self_eq_true _
            have HC := Lib.hid hc
            clear hc
            cases dn
            · go_wp2
              go_roundw
              case rel => exact ⟨j + 1, false, ms2, A2, c2, by omega, by go_num, rfl, rfl, (HI.out.same HKV.out (HK1.out.symm.trans HC.out)).far _⟩
              case measure => simp [intOf]; omega
            · go_wp2
              go_roundw
              case rel => exact ⟨j + 1, true, ms2, A2, c2, by omega, by go_num, rfl, rfl, (HI.out.same HKV.out (HK1.out.symm.trans HC.out)).far _⟩
              case measure => simp [intOf]; omega
          · have qe : (m.p.k == x.p.k) = false := by rw [beq_eq_false_iff_ne]; exact hc
            cases dn
            · by_cases hl : x.p.k < m.p.k
              · have ql : Op.bytesLess m.p.k x.p.k = false := by
                  rw [bytesLess_eq]
                  exact decide_eq_false (fun z => List.lt_irrefl _ (List.lt_trans z hl))
                have HLT : Hid (x.p.k < kv.1) := Lib.hid (by rw [← HK1.out]; exact hl)
                clear hl hc
                have NEAR := Lib.hid (own_near HI.out.1)
                have OW := Lib.hid ((HI.out.far (.cells #[.string (str m.p.k), .slice m.A m.p.v.length m.c, .bool m.p.g] 33)).1.alloc (.cells #[.string (str x.p.k), .slice x.A x.p.v.length x.c, .bool false] 33))
                have M8 := Lib.hid (lies_newput (wr.alloc (.cells #[.string (str m.p.k), .slice m.A m.p.v.length m.c, .bool m.p.g] 33)) x.nw (g := wr.heap.size + 1) (by simp))
                go_wp2_with (at_builtin; refine wpList_app _ rfl _ _ 22 rfl wp.heap.size 33 i0 _ 3 48 Tryz.underlying22 hi iz0 iz1 iz2 rfl (by decide) _ ms2.length (pcells ms2) rfl OW.out 0 _ 1 1 (MPu.cells x.nw) 33 rfl rfl M8.out (pcell_one _) (by unfold maxLen; have := LB.out; omega) (by have := LB.out; omega) (by simp; have := HI.out.2.1.size; omega) ?_)
                intro v' w9 hown' hgrow hor
                obtain ⟨A9, k9, rfl⟩ := own_slice hown'
                have T9 := Lib.hid (grown_tch (B := wp.heap.size) (ts := [33]) OW.out hgrow (Nat.le_refl _) (by simp; have := HI.out.2.1.size; omega) (by simp))
                have ob9 : w9.heap[wr.heap.size]? = some (.cells #[.string (str m.p.k), .slice m.A m.p.v.length m.c, .bool m.p.g] 33 (0, 0)) := (hgrow.block wr.heap.size (by simp; omega) (fun q => by have := (NEAR.out _ q.symm).2; omega)).trans (blk_alloc (heap_alloc_new wr _) _)
                have pb9 : w9.heap[w0.heap.size]? = some (.cells #[.string (str x.p.k), .slice x.A x.p.v.length x.c, .bool x.p.g] 33 (0, 0)) := (hgrow.block w0.heap.size (by simp; have := lt_of_block KPI.out; omega) (fun q => by have := (NEAR.out _ q.symm).1; have := SP.out; omega)).trans (blk_alloc (blk_alloc KPI.out _) _)
                obtain ⟨q0, q1, q2⟩ := three_cells ob9
                obtain ⟨r0, r1, r2⟩ := three_cells pb9
                have O9 := Lib.hid hown'
                have S9 := Lib.hid hgrow.size
                clear hown' hgrow hor OW M8 ob9 pb9
                have OW := Lib.hid (O9.out.alloc (.cells #[.string (str m.p.k), .slice m.A m.p.v.length m.c, .bool m.p.g] 33))
                have M8 := Lib.hid (lies_newput w9 m (g := w9.heap.size) rfl)
                go_wp2_with (at_builtin; refine wpList_app _ rfl _ _ 22 rfl wp.heap.size 33 i0 _ 3 48 Tryz.underlying22 hi iz0 iz1 iz2 rfl (by decide) _ (ms2.length + 1) (pcells ms2 ++ x.nw.cells) rfl OW.out 0 _ 1 1 (MPu.cells m) 33 rfl rfl M8.out (pcell_one _) (by unfold maxLen; have := LB.out; omega) (by have := LB.out; omega) (by simp; have := T9.out.below.size; have := HI.out.2.1.size; have z5 := S9.out; simp at z5; omega) ?_)
                intro v' w10 hown' hgrow hor
                obtain ⟨A10, k10, rfl⟩ := own_slice hown'
                have T10 := Lib.hid (grown_tch (B := wp.heap.size) (ts := [33]) OW.out hgrow (Nat.le_refl _) (by simp; have z5 := S9.out; simp at z5; have := HI.out.2.1.size; omega) (by simp))
                have O10 := Lib.hid hown'
                clear hown' hgrow hor
                go_wp2
                go_roundw
                case rel =>
                  have z := HI.out.2.1.size
                  have z5 := S9.out
                  simp at z5
                  exact ⟨j + 1, true, ms2 ++ [x.nw] ++ [m], A10, k10, by omega, by go_num, by simp, rfl, HI.out.two HKV.out HMP.out HLT.out FX.out FM.out (by rw [List.append_assoc]; exact O10.out) ((((Below.refl wp.heap.size wr).alloc z _ |>.alloc (by simp; omega) _).trans T9.out.below).trans (((Below.refl wp.heap.size w9).alloc (by omega) _).trans T10.out.below))⟩
                case measure => simp [intOf]; omega
              · have ql : Op.bytesLess m.p.k x.p.k = true := by
                  rw [bytesLess_eq]
                  exact decide_eq_true (St.lt_tri hl hc)
                have HD : Hid (false = true ∨ ¬ x.p.k < kv.1) := Lib.hid (.inr (by rw [← HK1.out]; exact hl))
                clear hl
                have OW := Lib.hid ((HI.out.far (.cells #[.string (str m.p.k), .slice m.A m.p.v.length m.c, .bool m.p.g] 33)).1.alloc (.cells #[.string (str m.p.k), .slice m.A m.p.v.length m.c, .bool m.p.g] 33))
                have M8 := Lib.hid (lies_newput (wr.alloc (.cells #[.string (str m.p.k), .slice m.A m.p.v.length m.c, .bool m.p.g] 33)) m (g := wr.heap.size + 1) (by simp))
                go_wp2_with (at_builtin; refine wpList_app _ rfl _ _ 22 rfl wp.heap.size 33 i0 _ 3 48 Tryz.underlying22 hi iz0 iz1 iz2 rfl (by decide) _ ms2.length (pcells ms2) rfl OW.out 0 _ 1 1 (MPu.cells m) 33 rfl rfl M8.out (pcell_one _) (by unfold maxLen; have := LB.out; omega) (by have := LB.out; omega) (by simp; have := HI.out.2.1.size; omega) ?_)
                intro v' w9 hown' hgrow _
                obtain ⟨A9, k9, rfl⟩ := own_slice hown'
                have T9 := Lib.hid (grown_tch (B := wp.heap.size) (ts := [33]) OW.out hgrow (Nat.le_refl _) (by simp; have := HI.out.2.1.size; omega) (by simp))
                have O9 := Lib.hid hown'
                clear hown' hgrow
                go_wp2
                go_roundw
                case rel =>
                  have z := HI.out.2.1.size
                  exact ⟨j + 1, false, ms2 ++ [m], A9, k9, by omega, by go_num, by simp, rfl, HI.out.on HKV.out HMP.out (fun e => hc (HK1.out.trans e)) HD.out FM.out O9.out (((Below.refl wp.heap.size wr).alloc z _ |>.alloc (by simp; omega) _).trans T9.out.below)⟩
                case measure => simp [intOf]; omega
            · have OW := Lib.hid ((HI.out.far (.cells #[.string (str m.p.k), .slice m.A m.p.v.length m.c, .bool m.p.g] 33)).1.alloc (.cells #[.string (str m.p.k), .slice m.A m.p.v.length m.c, .bool m.p.g] 33))
              have M8 := Lib.hid (lies_newput (wr.alloc (.cells #[.string (str m.p.k), .slice m.A m.p.v.length m.c, .bool m.p.g] 33)) m (g := wr.heap.size + 1) (by simp))
              go_wp2_with (at_builtin; refine wpList_app _ rfl _ _ 22 rfl wp.heap.size 33 i0 _ 3 48 Tryz.underlying22 hi iz0 iz1 iz2 rfl (by decide) _ ms2.length (pcells ms2) rfl OW.out 0 _ 1 1 (MPu.cells m) 33 rfl rfl M8.out (pcell_one _) (by unfold maxLen; have := LB.out; omega) (by have := LB.out; omega) (by simp; have := HI.out.2.1.size; omega) ?_)
              intro v' w9 hown' hgrow _
              obtain ⟨A9, k9, rfl⟩ := own_slice hown'
              have T9 := Lib.hid (grown_tch (B := wp.heap.size) (ts := [33]) OW.out hgrow (Nat.le_refl _) (by simp; have := HI.out.2.1.size; omega) (by simp))
              have O9 := Lib.hid hown'
              clear hown' hgrow
              go_wp2
              go_roundw
              case rel =>
                have z := HI.out.2.1.size
                exact ⟨j + 1, true, ms2 ++ [m], A9, k9, by omega, by go_num, by simp, rfl, HI.out.on HKV.out HMP.out (fun e => hc (HK1.out.trans e)) (.inl rfl) FM.out O9.out (((Below.refl wp.heap.size wr).alloc z _ |>.alloc (by simp; omega) _).trans T9.out.below)⟩
              case measure => simp [intOf]; omega
        · obtain rfl : j = n1 := by omega
          obtain ⟨p0, p1, p2⟩ := three_cells kpi
          have KPI := Lib.hid kpi
          have JE := Lib.hid (HN1.out.trans LL.out)
          clear kpi c0 c1' c2'
          have HIJ : Hid (HapIn R wp L1 x L1.length dn ms2 A2 c2 wr) := Lib.hid (by have z := HI.out; rw [JE.out] at z; exact z)
          cases dn
          · have OW := Lib.hid (HI.out.1.alloc (.cells #[.string (str x.p.k), .slice x.A x.p.v.length x.c, .bool false] 33))
            have M8 := Lib.hid (lies_newput wr x.nw (g := wr.heap.size) rfl)
            go_wp2_with (at_builtin; refine wpList_app _ rfl _ _ 22 rfl wp.heap.size 33 i0 _ 3 48 Tryz.underlying22 hi iz0 iz1 iz2 rfl (by decide) _ ms2.length (pcells ms2) rfl OW.out 0 _ 1 1 (MPu.cells x.nw) 33 rfl rfl M8.out (pcell_one _) (by unfold maxLen; have := LB.out; omega) (by have := LB.out; omega) (by simp; have := HI.out.2.1.size; omega) ?_)
            intro v' w9 hown' hgrow _
            obtain ⟨A9, k9, rfl⟩ := own_slice hown'
            have T9 := Lib.hid (grown_tch (B := wp.heap.size) (ts := [33]) OW.out hgrow (Nat.le_refl _) (by simp; have := HI.out.2.1.size; omega) (by simp))
            have O9 := Lib.hid hown'
            clear hown' hgrow
            go_wp2
            obtain ⟨f1, f2, f3, f4, f5⟩ := HapIn.last RF.out HIJ.out FX.out O9.out (((Below.refl wp.heap.size wr).alloc HI.out.2.1.size _).trans T9.out.below)
            go_roundw
            case rel => exact ⟨k + 1, _, _, _, ms2 ++ [x.nw], by omega, by go_num, rfl, by simp, by rw [f1, E1.out], f2, fun m hm => RQ.out m (f4 m hm), .inr (fun ad e => ⟨Nat.le_trans BP.out.size (f5 ad e).1, (f5 ad e).2⟩), BP.out.trans (f3.mono BP.out.size)⟩
            case measure => simp [intOf]; omega
          · go_wp2
            obtain ⟨f1, f2, f4, f5⟩ := HapIn.fin RF.out HIJ.out
            go_roundw
            case rel => exact ⟨k + 1, _, _, _, ms2, by omega, by go_num, rfl, rfl, by rw [f1, E1.out], f2, fun m hm => RQ.out m (f4 m hm), .inr (fun ad e => ⟨Nat.le_trans BP.out.size (f5 ad e).1, (f5 ad e).2⟩), BP.out.trans (HI.out.2.1.mono BP.out.size)⟩
            case measure => simp [intOf]; omega
    · obtain rfl : k = ks.length := by omega
      rw [List.take_length] at hp1
      have P1 := Lib.hid hp1
      have U1 := Lib.hid hu1
      have HB := Lib.hid hb
      have HQ := Lib.hid hq
      have HA1 := Lib.hid hA1
      clear hp1 hu1 hb hq hA1
      subst hn1
      go_wp2
      go_ret
      exact ⟨_, ms1, _, rfl, P1.out, U1.out, HQ.out, HA1.out, HB.out⟩
end
end Go.Proofs.YtpnfpeeijghamaaGreat
