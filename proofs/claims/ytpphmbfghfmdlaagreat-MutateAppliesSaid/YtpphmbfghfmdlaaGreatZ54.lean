/- The law LMuApplies: the row. Every input, no condition. -/
import Derived.Test.YtpphmbfghfmdlaaGreatZ53
import Derived.Test.YtpphmbfghfmdlaaGreatZ17
import Derived.Test.YtpphmbfghfmdlaaGreatZ49
import Derived.Test.YtpphmbfghfmdlaaGreatZ16
import Derived.Test.YtpphmbfghfmdlaaGreatZ21
import Derived.Test.YtpphmbfghfmdlaaGreatZ22
import Derived.Test.YtpphmbfghfmdlaaGreatZ23
import Derived.ProofKit
namespace Go.Proofs.YtpphmbfghfmdlaaGreat
set_option linter.unusedSimpArgs false
set_option maxRecDepth 100000
section
open Go.RowKit Go.Lib
theorem pV (a : Addr) : a.add 0 = a := by
 cases a
 unfold Addr.add
 split <;> simp_all
theorem uR {ms : List MTk} {t : T9.Tk} (h : tks ms = [t]) : ∃ mk, ms = [mk] ∧ mk.t = t := by
 cases ms with
 | nil => cases h
 | cons a r =>
  cases r with
  | nil => exact ⟨a, rfl, by injection h⟩
  | cons b r => injection h with _ h; cases h
def uW : T9.Tk := ⟨1, 1, [97], false, 0, 0, [[120]]⟩
def kW : T9.St := ⟨[⟨1, [108]⟩], [uW]⟩
theorem ap11 : T9.aY kW ⟨9, 1, 0, [120], 0, false⟩ = (⟨[], []⟩, 92) := by decide +kernel
theorem ap12 : T9.aY kW ⟨9, 1, 0, [121], 0, false⟩ = (⟨[⟨1, [108]⟩], [{ uW with tags := [[120], [121]] }]⟩, 0) := by decide +kernel
theorem lQ : kW.kR := ⟨by decide, by decide, fun l hl => by rw [kW, List.mem_singleton] at hl; subst hl; decide, fun t ht => by rw [kW, List.mem_singleton] at ht; subst ht; decide, fun t ht => by rw [kW, List.mem_singleton] at ht; subst ht; decide, fun t ht x hx => by
 rw [kW, List.mem_singleton] at ht
 subst ht
 rw [uW, List.mem_singleton] at hx
 subst hx
 decide⟩
theorem tF : kW.ok := ⟨fun l hl => by
 rw [kW, List.mem_singleton] at hl
 subst hl
 exact (by decide : 1 < 18446744073709551616), fun t ht => by
 rw [kW, List.mem_singleton] at ht
 subst ht
 exact ⟨by decide, by decide, by decide, by decide⟩⟩
set_option maxHeartbeats 2000000 in
theorem uH (w : World) : Calls Tryz.prog 7 #[] w fun e w' => e = .returned (.bool true) ∧ Below w.heap.size w w' := by
 obtain ⟨w1, hw1⟩ : ∃ u, w.alloc (.cells #[.int .u64 1, .string ⟨#[108]⟩] 51) = u := ⟨_, rfl⟩
 obtain ⟨lb, b1, z1⟩ := au hw1
 obtain ⟨w2, hw2⟩ : ∃ u, w1.alloc (.cells #[.string ⟨#[120]⟩] 9) = u := ⟨_, rfl⟩
 have gb : w2.heap[w1.heap.size]? = some (.cells #[.string ⟨#[120]⟩] 9 (0, 0)) := by rw [← hw2]; exact heap_alloc_new w1 _
 have b2 : Below w1.heap.size w1 w2 := by rw [← hw2]; exact (Below.refl _ w1).alloc (Nat.le_refl _) _
 have z2 : w2.heap.size = w1.heap.size + 1 := by rw [← hw2]; simp
 obtain ⟨w3, hw3⟩ : ∃ u, w2.alloc (.cells #[.int .u64 1, .int .u64 1, .string ⟨#[97]⟩, .bool false, .float .f64 0, .float .f64 0, .slice (some ⟨w1.heap.size, 0, none⟩) 1 1] 56) = u := ⟨_, rfl⟩
 obtain ⟨tb, b3, z3⟩ := aU hw3
 obtain ⟨w4, hw4⟩ : ∃ u, w3.alloc (.cells #[.slice (some ⟨w.heap.size, 0, none⟩) 1 1, .slice (some ⟨w2.heap.size, 0, none⟩) 1 1] 25) = u := ⟨_, rfl⟩
 obtain ⟨sb, b4, z4⟩ := au hw4
 have B4 : Hid (Below w.heap.size w w4) := hid (((b1.trans (b2.mono (by omega))).trans (b3.mono (by omega))).trans (b4.mono (by omega)))
 have S4 : Hid (SM ⟨[⟨1, [108]⟩], some ⟨w.heap.size, 0, none⟩, 1, [⟨uW, some ⟨w1.heap.size, 0, none⟩, 1⟩], some ⟨w2.heap.size, 0, none⟩, 1⟩ w4) := hid (by
  refine ⟨?_, ⟨?_, fun m hm => ?_⟩, Nat.le_refl _, Nat.le_refl _⟩
  ·have q := ak.eZ (B := 0) ((b4.block w.heap.size (by omega)).trans ((b3.block w.heap.size (by omega)).trans ((b2.block w.heap.size (by omega)).trans lb)))
   exact q.old
  ·have q := ak.eZ (B := 0) ((b4.block (w2.heap.size) (by omega)).trans tb)
   exact q.old
  ·rw [List.mem_singleton] at hm
   subst hm
   refine ⟨?_, Nat.le_refl _⟩
   have q := ak.eZ (B := 0) ((b4.block (w1.heap.size) (by omega)).trans ((b3.block (w1.heap.size) (by omega)).trans gb))
   exact q.old)
 have SB : Hid (w4.heap[w3.heap.size]? = some (.cells #[.slice (some ⟨w.heap.size, 0, none⟩) 1 1, .slice (some ⟨w2.heap.size, 0, none⟩) 1 1] 25 (0, 0))) := hid sb
 have C1 : Hid (Calls Tryz.prog 10 #[.agg #[.slice (some ⟨w.heap.size, 0, none⟩) 1 1, .slice (some ⟨w2.heap.size, 0, none⟩) 1 1], .agg #[.int .i64 9, .int .u64 1, .int .u64 0, .string ⟨#[120]⟩, .float .f64 0, .bool false]] w4 (tN kW ⟨9, 1, 0, [120], 0, false⟩ w4)) := hid (jG (m := ⟨9, 1, 0, [120], 0, false⟩) S4.out lQ tF (by decide) ⟨by decide, by decide, by decide⟩)
 clear b1 b2 b3 b4 z1 z2 z3 z4 lb gb tb sb
 obtain ⟨v0, v1⟩ := aa SB.out
 go_enter Tryz.func7, Tryz.ntmps7
 go_wp2_with fail
 refine C1.out.mono ?_
 rintro e wa ⟨q, er, rfl, hq, ha, hst, her⟩
 rw [ap11] at her
 obtain rfl : er = 92 := her
 unfold MSt.val
 obtain ⟨w5, hw5⟩ : ∃ u, wa.alloc (.cells #[.slice q.A q.ls.length q.c, .slice q.A2 q.ms.length q.c2] 25) = u := ⟨_, rfl⟩
 have h5 : Below w4.heap.size w4 w5 := by rw [← hw5]; exact ha.alloc ha.size _
 have B5 := hid (B4.out.trans (h5.mono B4.out.size))
 have C2 : Hid (Calls Tryz.prog 10 #[.agg #[.slice (some ⟨w.heap.size, 0, none⟩) 1 1, .slice (some ⟨w2.heap.size, 0, none⟩) 1 1], .agg #[.int .i64 9, .int .u64 1, .int .u64 0, .string ⟨#[121]⟩, .float .f64 0, .bool false]] w5 (tN kW ⟨9, 1, 0, [121], 0, false⟩ w5)) := hid (jG (m := ⟨9, 1, 0, [121], 0, false⟩) (S4.out.stay h5) lQ tF (by decide) ⟨by decide, by decide, by decide⟩)
 obtain ⟨x0, x1⟩ := aa ((h5.block _ (lt_of_block SB.out)).trans SB.out)
 clear hq ha hst h5 v0 v1
 go_wp2_with fail
 refine C2.out.mono ?_
 rintro e wb ⟨⟨ls2, A2, c2, ms2, A3, c3⟩, er, rfl, hq, hb, hst, her⟩
 rw [ap12] at her hst
 obtain rfl : er = 0 := her
 have e2 : tks ms2 = [{ uW with tags := [[120], [121]] }] := congrArg T9.St.aN hst
 obtain ⟨mk, rfl, emk⟩ : ∃ mk, ms2 = [mk] ∧ mk.t = { uW with tags := [[120], [121]] } := uR e2
 unfold MSt.val
 dsimp only [List.length_cons, List.length_nil]
 obtain ⟨w6, hw6⟩ : ∃ u, wb.alloc (.cells #[.slice A2 ls2.length c2, .slice A3 1 c3] 25) = u := ⟨_, rfl⟩
 obtain ⟨ob, b6, z6⟩ := au hw6
 have B6 := hid (B5.out.trans ((hb.trans (b6.mono hb.size)).mono B5.out.size))
 obtain ⟨ad, m', hA, hx, _, r0, r1, r2, r3, r4, r5, r6⟩ := (hq.k.stay b6).at_ (k := 0) (show 0 < 1 by decide)
 have em : m' = mk := by injection hx with hx; exact hx.symm
 subst em
 dsimp only at hA
 subst hA
 have tl : m'.t.tags.length = 2 := by rw [emk]; rfl
 rw [Nat.zero_mul, pV, tl] at r6
 obtain ⟨y0, y1⟩ := aa ob
 clear hq hb hst e2 ob b6 z6 hx emk r0 r1 r2 r3 r4 r5 tl x0 x1
 go_wp2_with fail
 go_ret
 exact ⟨rfl, B6.out⟩
theorem vL {m : T9.Mu} {w : World} : Calls Tryz.prog 9 #[m.val] w fun e w' => e = .returned (.bool (decide (m.text.length ≤ 200))) ∧ Below w.heap.size w w' := by
 unfold T9.Mu.val
 obtain ⟨w1, hw1⟩ : ∃ u, w.alloc (.cells #[.int .i64 m.kind, .int .u64 (m.id : Int), .int .u64 (m.list : Int), .string (str m.text), .float .f64 m.f, .bool m.flag] 29) = u := ⟨_, rfl⟩
 obtain ⟨pb, b1, z1⟩ := aW hw1
 obtain ⟨p0, p1, p2, p3, p4, p5⟩ := af pb
 have B1 := hid b1
 have sz : (str m.text).size = m.text.length := rfl
 clear pb b1 z1
 by_cases h : m.text.length ≤ 200
 ·have hz : ((str m.text).size : Int) ≤ 200 := by rw [sz]; omega
  have e := hid (decide_eq_true h)
  clear h sz
  go_enter Tryz.func9, Tryz.ntmps9
  go_wp2
  go_ret
  exact ⟨aR (by rw [e.out]), B1.out⟩
 ·have hz : ¬ (((str m.text).size : Int) ≤ 200) := by rw [sz]; omega
  have e := hid (decide_eq_false h)
  clear h sz
  go_enter Tryz.func9, Tryz.ntmps9
  go_wp2
  go_ret
  exact ⟨aR (by rw [e.out]), B1.out⟩
end
section
open Go.RowKit Go.Lib
theorem qm {ts : List T9.Tk} {x : T9.Tk} (h : ∀ t ∈ ts, t.ok) (hx : x.ok) : ∀ t ∈ Sr.ins T9.ltK x ts, t.ok := fun t ht => by
 rcases Sr.gM ht with rfl | q
 ·exact hx
 ·exact h t q
theorem kZ {ts : List T9.Tk} {l i : Nat} {d : Bool} (h : ∀ t ∈ ts, t.ok) : ∀ t ∈ T9.wo ts l d i, t.ok := fun t ht => h t (List.mem_filter.1 ht).1
theorem uA {ts : List T9.Tk} {i : Nat} (h : ∀ t ∈ ts, t.ok) (hh : T9.dh ts i = true) : (T9.bT ts i).1.ok := h _ (T9.h_ hh).1
theorem yF {l : List T9.Tk} {t : T9.Tk} (hl : l.length ≤ 60) (h : t.ok) : (T9.spr l t).ok := by
 unfold T9.spr
 cases e : T9.plc l t.id with
 | none => exact h
 | some j =>
  obtain ⟨x, hx, _⟩ := T9.qa e
  have := (List.getElem?_eq_some_iff.1 hx).1
  have hb := (Fl.wG (j + 1) (by omega)).1
  dsimp only
  generalize Fl.flo (j + 1) = f at hb ⊢
  exact ⟨h.1, h.2.1, hb, h.2.2.2⟩
theorem sH (ts : List T9.Tk) (l : Nat) : (T9.gW ts l).length ≤ ts.length := by
 unfold T9.gW
 have q : ∀ (xs o : List T9.Tk), (xs.foldl (fun o x => Sr.ins T9.ltR x o) o).length ≤ o.length + xs.length := by
  intro xs
  induction xs with
  | nil => intro o; simp
  | cons x xs ih =>
   intro o
   have a := ih (Sr.ins T9.ltR x o)
   have b : ∀ o : List T9.Tk, (Sr.ins T9.ltR x o).length ≤ o.length + 1 := by
    intro o
    induction o with
    | nil => simp [Sr.ins]
    | cons y o ih2 => unfold Sr.ins; split <;> (try split) <;> simp <;> omega
   have c := b o
   simp only [List.foldl_cons, List.length_cons]
   omega
 have a := q (T9.dO ts l) []
 have b : (T9.dO ts l).length ≤ ts.length := by unfold T9.dO; exact List.length_filter_le _ _
 unfold Sr.canon
 simp only [List.length_nil, Nat.zero_add] at a
 omega
theorem wI {home : Bool} {m : T9.Mu} {t : T9.Tk} (km : m.ok) (h : t.ok) : (T9.chg home m t).2.ok := by
 unfold T9.chg
 split
 ·exact h
 split
 ·exact h
 split
 ·exact ⟨h.1, km.2.1, km.2.2, h.2.2.2⟩
 split
 ·exact ⟨h.1, h.2.1, km.2.2, h.2.2.2⟩
 split
 ·exact ⟨h.1, h.2.1, h.2.2.1, km.2.2⟩
 ·exact h
theorem xS {s : T9.St} {m : T9.Mu} (h : s.ok) (km : m.ok) (hr : T9.aG s = 0) (hd : (T9.doM s m).1 = 0) : (T9.doM s m).2.ok := by
 unfold T9.doM at hd ⊢
 by_cases k1 : m.kind = 1
 ·rw [if_pos k1] at hd ⊢
  split at hd
  ·cases hd
  rename_i a
  rw [if_neg a]
  split at hd
  ·cases hd
  rename_i b
  rw [if_neg b]
  refine ⟨fun l hl => ?_, h.2⟩
  rcases Sr.gM hl with rfl | q
  ·exact km.1
  ·exact h.1 l q
 rw [if_neg k1] at hd ⊢
 by_cases k2 : m.kind = 2
 ·rw [if_pos k2] at hd ⊢
  split at hd
  ·cases hd
  rename_i a
  rw [if_neg a]
  exact ⟨fun l hl => h.1 l (List.mem_filter.1 hl).1, kZ h.2⟩
 rw [if_neg k2] at hd ⊢
 by_cases k12 : m.kind = 12
 ·rw [if_pos k12] at hd ⊢
  split at hd
  ·cases hd
  rename_i a
  rw [if_neg a]
  exact ⟨h.1, kZ h.2⟩
 rw [if_neg k12] at hd ⊢
 by_cases k13 : m.kind = 13
 ·rw [if_pos k13] at hd ⊢
  split at hd
  ·cases hd
  rename_i a
  rw [if_neg a]
  refine ⟨h.1, fun t ht => ?_⟩
  obtain ⟨x, hx, rfl⟩ := List.mem_map.1 ht
  exact yF (Nat.le_trans (sH _ _) (T9.aB hr).2.1) (h.2 x hx)
 rw [if_neg k13] at hd ⊢
 by_cases k3 : m.kind = 3
 ·rw [if_pos k3] at hd ⊢
  split at hd
  ·cases hd
  rename_i a
  rw [if_neg a]
  split at hd
  ·cases hd
  rename_i b
  rw [if_neg b]
  split at hd
  ·cases hd
  rename_i c
  rw [if_neg c]
  exact ⟨h.1, qm h.2 ⟨km.1, km.2.1, km.2.2, (by decide +kernel : Fl.eQ < 18446744073709551616)⟩⟩
 rw [if_neg k3] at hd ⊢
 split at hd
 ·cases hd
 rename_i a
 rw [if_neg a]
 have a' : T9.dh s.aN m.id = true := by simpa using a
 by_cases k11 : m.kind = 11
 ·rw [if_pos k11]
  exact ⟨h.1, kZ h.2⟩
 ·rw [if_neg k11]
  exact ⟨h.1, qm (kZ h.2) (wI km (uA h.2 a'))⟩
theorem pg {s : T9.St} {m : T9.Mu} (h : s.ok) (km : m.ok) : (T9.aY s m).1.short ∧ (T9.aY s m).1.ok := by
 by_cases e : (T9.aY s m).2 = 0
 ·obtain ⟨a1, a2, a3, a4⟩ := uJ e
  rw [a4]
  exact ⟨pI (T9.uL a1 a2 a3), xS h km a1 a3⟩
 ·rw [lS e]
  exact ⟨⟨by simp, by simp, by simp, by simp⟩, by simp, by simp⟩
set_option maxHeartbeats 8000000 in
theorem kU {s : MSt} {m : T9.Mu} {w : World} (hs : SM s w) (ks : s.st.ok) (fs : s.far) (km : m.ok) :
  Calls Tryz.prog 3 #[s.val, m.val] w fun e w' => e = .returned (.bool true) ∧ Below w.heap.size w w' := by
 obtain ⟨w0, hw0⟩ : ∃ u, w.alloc (.cells #[.slice s.A s.ls.length s.c, .slice s.A2 s.ms.length s.c2] 25) = u := ⟨_, rfl⟩
 obtain ⟨pb0, b0, z0⟩ := au hw0
 obtain ⟨w1, hw1⟩ : ∃ u, w0.alloc (.cells #[.int .i64 m.kind, .int .u64 (m.id : Int), .int .u64 (m.list : Int), .string (str m.text), .float .f64 m.f, .bool m.flag] 29) = u := ⟨_, rfl⟩
 obtain ⟨pb1, b1, z1⟩ := aW hw1
 have B1 : Hid (Below w.heap.size w w1) := hid (b0.trans (b1.mono (by omega)))
 have S1 : Hid (pQ s w.heap.size w1) := hid ⟨ae pb0 b1, hs.stay B1.out⟩
 have M1 : Hid (gD m w0.heap.size w1) := hid pb1
 have KS := hid ks
 have FS := hid fs
 have KM := hid km
 have AW := hid (uH w1)
 unfold MSt.val T9.Mu.val
 clear hs ks fs km pb0 b0 z0 pb1 b1 z1
 go_enter Tryz.func3, Tryz.ntmps3
 go_wp2_with fail
 refine AW.out.mono ?_
 rintro e w2 ⟨rfl, h2⟩
 have S2 := hid (S1.out.stay h2)
 have M2 := hid (M1.out.stay h2)
 have B2 := hid (B1.out.trans (h2.mono B1.out.size))
 clear h2
 obtain ⟨x0, x1⟩ := S2.out.cells
 have LS := hid (xz (c := s.c) (c2 := s.c2) S2.out.s.l S2.out.s.k rfl rfl FS.out)
 go_wp2_with fail
 refine LS.out.mono ?_
 rintro e w3 ⟨bb, rfl, hb, h3⟩
 have S3 := hid (S2.out.stay h3)
 have M3 := hid (M2.out.stay h3)
 have B3 := hid (B2.out.trans (h3.mono B2.out.size))
 clear h3 x0 x1
 cases bb with
 | false =>
  clear hb
  go_wp2_with fail
  go_ret
  exact ⟨rfl, B3.out⟩
 | true =>
  have LTS := hid (hb rfl)
  clear hb
  obtain ⟨m0, m1, m2, m3, m4, m5⟩ := af M3.out
  obtain ⟨lb, hlb⟩ : ∃ b, decide (m.text.length ≤ 200) = b := ⟨_, rfl⟩
  have LM := hid (vL (m := m) (w := w3))
  unfold T9.Mu.val at LM
  rw [hlb] at LM
  have HLB := hid hlb
  clear hlb
  go_wp2_with fail
  refine LM.out.mono ?_
  rintro e w4 ⟨rfl, h4⟩
  have S4 := hid (S3.out.stay h4)
  have M4 := hid (M3.out.stay h4)
  have B4 := hid (B3.out.trans (h4.mono B3.out.size))
  clear h4 m0 m1 m2 m3 m4 m5
  cases lb with
  | false =>
   go_wp2_with fail
   go_ret
   exact ⟨rfl, B4.out⟩
  | true =>
   have TL := hid (of_decide_eq_true HLB.out)
   obtain ⟨x0, x1⟩ := S4.out.cells
   obtain ⟨m0, m1, m2, m3, m4, m5⟩ := af M4.out
   have AC := hid (jG S4.out.s LTS.out KS.out TL.out KM.out)
   unfold MSt.val T9.Mu.val at AC
   go_wp2_with fail
   refine AC.out.mono ?_
   rintro e w5 ⟨q, er, rfl, hq, h5, hst, her⟩
   unfold MSt.val
   obtain ⟨w6, hw6⟩ : ∃ u, w5.alloc (.cells #[.slice q.A q.ls.length q.c, .slice q.A2 q.ms.length q.c2] 25) = u := ⟨_, rfl⟩
   obtain ⟨qb, b6, z6⟩ := au hw6
   have h6 := h5.trans (b6.mono h5.size)
   have S6 := hid (S4.out.stay h6)
   have M6 := hid (M4.out.stay h6)
   have Q6 : Hid (pQ q w5.heap.size w6) := hid ⟨qb, hq.stay b6⟩
   have B6 := hid (B4.out.trans (h6.mono B4.out.size))
   obtain ⟨q0, q1⟩ := Q6.out.cells
   obtain ⟨E, hE⟩ : ∃ r, (T9.aY s.st m).2 = r := ⟨_, rfl⟩
   obtain rfl : er = E := her.trans hE
   have HE := hid hE
   have HST := hid hst
   clear hq h5 hst her hE qb b6 z6 h6 x0 x1 m0 m1 m2 m3 m4 m5 q0 q1
   obtain ⟨x0, x1⟩ := S6.out.cells
   obtain ⟨m0, m1, m2, m3, m4, m5⟩ := af M6.out
   have RA := hid (rG S6.out.s LTS.out KS.out TL.out)
   unfold MSt.val T9.Mu.val at RA
   go_wp2_with fail
   refine RA.out.mono ?_
   rintro e w7 ⟨q2, er2, rfl, hq2, h7, hst2, her2⟩
   unfold MSt.val
   obtain rfl : er2 = er := her2.trans HE.out
   obtain ⟨w8, hw8⟩ : ∃ u, w7.alloc (.cells #[.slice q2.A q2.ls.length q2.c, .slice q2.A2 q2.ms.length q2.c2] 25) = u := ⟨_, rfl⟩
   obtain ⟨qb, b8, z8⟩ := au hw8
   have h8 := h7.trans (b8.mono h7.size)
   have M8 := hid (M6.out.stay h8)
   have Q8 := hid (Q6.out.stay h8)
   have P8 : Hid (pQ q2 w7.heap.size w8) := hid ⟨qb, hq2.stay b8⟩
   have B8 := hid (B6.out.trans (h8.mono B6.out.size))
   have HST2 := hid hst2
   have FI := hid (pg KS.out KM.out)
   have HM := hid (Nat.le_trans TL.out (by decide : 200 ≤ 1000000))
   clear hq2 h7 hst2 her2 qb b8 z8 h8 x0 x1 m0 m1 m2 m3 m4 m5 hw6
   have CM := hid fun (v : World) => jE (m := m) (w := v) TL.out
   have CR := hid fun (v : World) => lC (m := m) (w := v) HM.out
   have CS := hid fun (v : World) (hv : Below w8.heap.size w8 v) => qV (Q8.out.stay hv).s (P8.out.stay hv).s (by rw [HST.out]; exact FI.out.1) (by rw [HST2.out]; exact FI.out.1) (by rw [HST.out]; exact FI.out.2) (by rw [HST2.out]; exact FI.out.2)
   rw [show T9.same q.st q2.st = true by rw [HST.out, HST2.out]; exact T9.uV _] at CS
   unfold MSt.val at CS
   unfold T9.Mu.val at CM CR
   go_wp2_with fail
   refine wp_region_held_drew (S := fun u => Below w8.heap.size w8 u) (by kernel_rfl) ((Below.refl w8.heap.size w8).drew) (fun S0 => ?_)
   refine tkH 0 ?_ rfl (by kernel_rfl) rfl ?_ S0 ?_
   rotate_left
   ·intro u hu;obtain ⟨y0, y1, y2, y3, y4, y5⟩ := af (M8.out.stay hu);go_simp;try rfl
   try simp only [Act.put, pS]
   refine tkH 2 ?_ rfl (by kernel_rfl) rfl ?_ S0 ?_
   rotate_left
   ·intro u hu;obtain ⟨y0, y1, y2, y3, y4, y5⟩ := af (M8.out.stay hu);go_simp;try rfl
   try simp only [Act.put, pS]
   refine av (i := 1) (by kernel_rfl) rfl (fun K hK => ?_)
   go_simp
   refine (CM.out _).mono ?_
   rintro e wa ⟨rfl, ha⟩
   have S1 := S0.trans (ha.mono S0.size)
   clear ha
   refine hK _ _ S1 ?_
   clear hK K S0
   have S0 := S1
   clear S1
   try simp only [Act.put, pS]
   refine av (i := 3) (by kernel_rfl) rfl (fun K hK => ?_)
   go_simp
   refine (CR.out _).mono ?_
   rintro e wb ⟨rfl, hb⟩
   have S1 := S0.trans (hb.mono S0.size)
   clear hb
   refine hK _ _ S1 ?_
   clear hK K S0
   have S0 := S1
   clear S1
   try simp only [Act.put, pS]
   refine tkH 4 ?_ rfl (by kernel_rfl) rfl ?_ S0 ?_
   rotate_left
   ·intro u hu;go_simp;try rfl
   try simp only [Act.put, pS]
   refine tkH 5 ?_ rfl (by kernel_rfl) rfl ?_ S0 ?_
   rotate_left
   ·intro u hu;go_simp;try rfl
   try simp only [Act.put, pS]
   refine tkH 6 ?_ rfl (by kernel_rfl) rfl ?_ S0 ?_
   rotate_left
   ·intro u hu;go_simp;try rfl
   try simp only [Act.put, pS]
   refine tkH 7 ?_ rfl (by kernel_rfl) rfl ?_ S0 ?_
   rotate_left
   ·intro u hu;go_simp;try rfl
   try simp only [Act.put, pS]
   refine tkH 8 ?_ rfl (by kernel_rfl) rfl ?_ S0 ?_
   rotate_left
   ·intro u hu;go_simp;try rfl
   try simp only [Act.put, pS]
   refine tkH 9 ?_ rfl (by kernel_rfl) rfl ?_ S0 ?_
   rotate_left
   ·intro u hu;go_simp;try rfl
   try simp only [Act.put, pS]
   refine tkH 10 ?_ rfl (by kernel_rfl) rfl ?_ S0 ?_
   rotate_left
   ·intro u hu;go_simp;try rfl
   try simp only [Act.put, pS]
   refine tkH 11 ?_ rfl (by kernel_rfl) rfl ?_ S0 ?_
   rotate_left
   ·intro u hu;obtain ⟨y0, y1⟩ := (Q8.out.stay hu).cells;go_simp;try rfl
   try simp only [Act.put, pS]
   refine tkH 12 ?_ rfl (by kernel_rfl) rfl ?_ S0 ?_
   rotate_left
   ·intro u hu;obtain ⟨y0, y1⟩ := (P8.out.stay hu).cells;go_simp;try rfl
   try simp only [Act.put, pS]
   refine av (i := 13) (by kernel_rfl) rfl (fun K hK => ?_)
   go_simp
   refine (CS.out _ S0).mono ?_
   rintro e wd ⟨rfl, hd⟩
   have S1 := S0.trans (hd.mono S0.size)
   have BD := hid (B8.out.trans (S1.mono B8.out.size))
   clear hd
   refine hK _ _ S1 ?_
   clear hK K S0
   have S0 := S1
   clear S1
   try simp only [Act.put, pS]
   refine tkH 14 ?_ rfl (by kernel_rfl) rfl ?_ S0 ?_
   rotate_left
   ·intro u hu;go_simp;try rfl
   try simp only [Act.put, pS]
   refine tkH 15 ?_ rfl (by kernel_rfl) rfl ?_ S0 ?_
   rotate_left
   ·intro u hu;go_simp;try rfl
   try simp only [Act.put, pS]
   refine wpAnyH_done (by kernel_rfl) ?_ _
   clear S0
   go_wp2_with fail
   go_ret
   exact ⟨rfl, BD.out⟩
end
section
open Go.ChangeShapes Go.WideShapes Go.ChangeAt Go.RowKit
theorem iR (os : Os) (started : os.Started) (H : Type) (enc : TypeId × Value → H) :
  ReturnsInHanded {} Tryz.checked os 3 .any (Rows.mutateAppliesSpec.pre6 enc Tryz.prog Tryz.f3 Rows.mutateAppliesRow.domain false) (Rows.mutateAppliesSpec.post enc Tryz.prog Tryz.f3 false true false false) := by
 refine returnsInHanded_of_change (C := Tryz.checked) Tryz.own2 started (by kernel_rfl) Tryz.func3
  (ChangeSpec.witness6 (enc := enc) (C := Tryz.checked) false ⟨#[], #[.agg #[.slice none 0 0, .slice none 0 0], .agg #[.int .i64 0, .int .u64 0, .int .u64 0, .string ⟨#[]⟩, .float .f64 0, .bool false]], []⟩ 8 (by kernel_rfl) (by kernel_rfl) (by kernel_rfl) (by kernel_rfl)) ?_
 intro W base args ds gs before hval0 hW hcnd _
 have hval : ∀ (j : Nat) t v, Tryz.f3.params[j]? = some t → args[j]? = some v → Value.okWide Tryz.prog W .any base t v := hval0
 have hW' := hW
 obtain ⟨p, q, hA0, hV, rfl, hfz, hnd⟩ := hW
 have hA : DataW.TrodAll enc Tryz.prog W 0 (fun _ => true) true Tryz.f3.params.toList args.toList ds p := hA0
 rw [Tryz.params3] at hA hval
 obtain ⟨v0, v1, d0, d1, p0, p1, rfl, rfl, hps, h0, h1⟩ := trodAll_two hA
 obtain ⟨m0, e0, hs0, ho0, hf0⟩ := qX (hval 0 25 v0 rfl rfl) h0
 subst e0
 obtain ⟨m1, e1, hm1⟩ := sK (hval 1 29 v1 rfl rfl) h1
 subst e1
 refine (kU hs0 ho0 hf0 hm1).mono fun e W' ⟨he, hw⟩ => ?_
 subst he
 refine ⟨_, rfl, yh (tb := 4) Tryz.laidOut2 ?_ rfl (by kernel_rfl) Tryz.underlying4 hW' hw ?_ ?_ ?_⟩
 ·intro t ht
  rw [Tryz.params3] at ht
  simp at ht
  rcases ht with rfl | rfl
  all_goals exact ⟨by kernel_rfl, of_decide_eq_true (by kernel_rfl)⟩
 all_goals
  obtain ⟨rfl, rfl⟩ := trodVars_none hV
  rfl
theorem mutateApplies_holds : Rows.MutateAppliesSaid :=
 OpenClaim.holds_of_wide 3 Tryz.f3 rfl rfl rfl rfl rfl rfl rfl ⟨rfl, rfl, rfl, rfl, rfl⟩ rfl rfl rfl rfl rfl (by kernel_rfl) Tryz.func3 (by kernel_rfl)
  (of_decide_eq_true (by kernel_rfl)) (by unfold Func.isWrapper; first | (rw [if_pos (by decide +kernel)]; kernel_rfl) | (rw [if_neg (by decide +kernel)]; exact ⟨rfl, rfl⟩))
  (fun os started H enc _ => iR os started H enc)
end
end Go.Proofs.YtpphmbfghfmdlaaGreat
