/- Stage 9: a state's bytes; the code's Put. -/
import Derived.Test.YtbgdmmemahfpbaaTz
import Derived.Test.YtbgdmmemahfpbaaWg
import Derived.Test.YtbgdmmemahfpbaaRe
namespace Go.Proofs.Ytbgdmmemahfpbaa
open Go.RowKit Go.Lib
set_option maxRecDepth 100000

namespace T9
def encLi (l : Li) : List UInt8 := Cd.num l.id ++ St.wb l.name
def encTk (t : Tk) : List UInt8 := Cd.num t.id ++ Cd.num t.list ++ St.wb t.title ++ St.fl t.done ++ Cd.fix (Fl.key t.rank).toNat 8 ++ Cd.fix (Fl.key t.est).toNat 8 ++ Cd.num t.tags.length ++ t.tags.flatMap St.wb
/-- A state's bytes. -/
def bts (s : St) : List UInt8 := Cd.num s.lists.length ++ s.lists.flatMap encLi ++ Cd.num s.tasks.length ++ s.tasks.flatMap encTk
/-- A small state. -/
structure St.light (s : St) : Prop where
  nl : s.lists.length ≤ 25
  nt : s.tasks.length ≤ 70
  name : ∀ l ∈ s.lists, l.name.length ≤ 100
  title : ∀ t ∈ s.tasks, t.title.length ≤ 100
  few : ∀ t ∈ s.tasks, t.tags.length ≤ 8
  tag : ∀ t ∈ s.tasks, ∀ x ∈ t.tags, x.length ≤ 100
theorem St.light.short {s : St} (h : s.light) : s.short := ⟨fun l hl => by have := h.name l hl; omega, fun t ht => ⟨by have := h.title t ht; omega, fun x hx => by have := h.tag t ht x hx; omega, by have := h.few t ht; omega⟩, by have := h.nl; omega, by have := h.nt; omega⟩
theorem flat_le {α : Type} {f : α → List UInt8} {c : Nat} : ∀ {l : List α}, (∀ x ∈ l, (f x).length ≤ c) → (l.flatMap f).length ≤ c * l.length
  | [], _ => by simp
  | x :: l, h => by
    have i := flat_le (f := f) (c := c) (l := l) fun y hy => h y (List.mem_cons_of_mem _ hy)
    have := h x (List.mem_cons_self ..)
    rw [List.flatMap_cons, List.length_append, List.length_cons, Nat.mul_add]
    omega
theorem wb_le {b : List UInt8} {c : Nat} (h : b.length ≤ c) : (St.wb b).length ≤ c + 9 := by
  unfold St.wb
  have := num_len b.length
  rw [List.length_append]
  omega
theorem encLi_le {l : Li} (h : l.name.length ≤ 100) : (encLi l).length ≤ 118 := by
  unfold encLi
  have := num_len l.id
  have := wb_le h
  rw [List.length_append]
  omega
theorem encTk_le {t : Tk} (h : t.title.length ≤ 100) (h2 : t.tags.length ≤ 8) (h3 : ∀ x ∈ t.tags, x.length ≤ 100) : (encTk t).length ≤ 1100 := by
  unfold encTk
  have := num_len t.id
  have := num_len t.list
  have := num_len t.tags.length
  have := wb_le h
  have := flat_le (f := St.wb) (c := 109) fun x hx => wb_le (h3 x hx)
  have : (St.fl t.done).length = 1 := rfl
  simp only [List.length_append, Cd.fix_len]
  omega
end T9

set_option maxHeartbeats 1000000 in
theorem wBytes9_c {B p : Nat} {l : List UInt8} {w : World} (h : WS B w p l) (hs : l.length ≤ 1099511627776) :
    Calls Try.prog 66 #[.pointer (some ⟨p, 0, none⟩)] w (CloneOk l w) := by
  obtain ⟨_, A, c, hp, ho⟩ := h
  have c0 : w.cell? ⟨p, 0, none⟩ = some (.slice A l.length c) := by simp [World.cell?, hp]
  have HO := Lib.hid ho
  clear hp ho
  go_enter Try.func66, Try.ntmps66
  go_wp2_with fail
  refine (clone_c (lies_own (B := 0) HO.out) (Nat.zero_le _) rfl hs).mono ?_
  rintro e w' ⟨A2, n2, c2, rfl, ho, hb⟩
  have HO2 := Lib.hid ho
  have HB := Lib.hid hb
  clear ho hb
  go_wp2
  go_ret
  exact ⟨A2, n2, c2, rfl, HO2.out, HB.out⟩
theorem wN2_c {B p g : Nat} {l : List UInt8} {w : World} (a b : Nat) (hg : g = w.heap.size) (h : WS B w p l) (ha : a < 18446744073709551616) (hb : b < 18446744073709551616) (hs : l.length + 18 ≤ 1000000000000) :
    Calls Try.prog 62 #[.pointer (some ⟨p, 0, none⟩), .slice (some ⟨g, 0, none⟩) 2 2] (w.alloc (.cells #[.int .u64 (a : Int), .int .u64 (b : Int)] 33)) fun e w' => e = .returned (.tuple #[]) ∧ WS B w' p (l ++ (Cd.num a ++ Cd.num b)) ∧ Tch B [86, 5] w w' := by
  subst hg
  have hL : Lies (w.alloc (.cells #[.int .u64 (a : Int), .int .u64 (b : Int)] 33)) B 33 (some ⟨w.heap.size, 0, none⟩) ([(a : Int), (b : Int)].map (Value.int .u64)) := Lies.of_blk (heap_alloc_new w _)
  refine (wN_c (h.alloc _) hL rfl (by intro n hn; simp at hn; rcases hn with rfl | rfl <;> omega) (by simpa using hs)).mono fun e w' q => ⟨q.1, by simpa [nums] using q.2.1, ?_⟩
  exact ((Tch.refl B _ w).alloc h.size _).trans q.2.2

set_option maxHeartbeats 8000000 in
set_option maxRecDepth 100000 in
theorem put_c {A A2 : Option Addr} {n1 n2 c c2 : Nat} {ls : List T9.Li} {ms : List MTk} {w : World} (hl : LL w A ls) (hk : KL w A2 ms) (e1 : n1 = ls.length) (e2 : n2 = ms.length) (hs : (⟨ls, tks ms⟩ : T9.St).light) (ho : (⟨ls, tks ms⟩ : T9.St).ok) :
    Calls Try.prog 26 #[.agg #[.slice A n1 c, .slice A2 n2 c2]] w (CloneOk (T9.bts ⟨ls, tks ms⟩) w) := by
  have E1 := Lib.hid e1
  have E2 := Lib.hid e2
  have HS := Lib.hid hs
  have HO := Lib.hid ho
  have HL := Lib.hid hl
  have HK := Lib.hid hk
  obtain ⟨w0, hw0⟩ : ∃ u, w.alloc (.cells #[.slice A n1 c, .slice A2 n2 c2] 25) = u := ⟨_, rfl⟩
  obtain ⟨pb0, b0, z0⟩ := new_two hw0
  obtain ⟨w1, hw1⟩ : ∃ u, w0.alloc (.cells #[.slice none 0 0] 86) = u := ⟨_, rfl⟩
  have pw : WS w.heap.size w1 (w.heap.size + 1) [] := by
    refine ⟨Nat.le_succ _, none, 0, ?_, World.ownsRow_nil _ _ _ _⟩
    rw [← hw1, ← z0]
    exact heap_alloc_new w0 _
  have b1 : Below w.heap.size w w1 := by rw [← hw1]; exact b0.alloc (by omega) _
  have pb1 : w1.heap[w.heap.size]? = some (.cells #[.slice A n1 c, .slice A2 n2 c2] 25 (0, 0)) := by rw [← hw1]; exact blk_alloc pb0 _
  have z1 : w1.heap.size = w.heap.size + 2 := by rw [← hw1, World.size_alloc, z0]
  have B1 := Lib.hid b1
  have Z1 := Lib.hid z1
  have PB := Lib.hid pb1
  have W0 := Lib.hid pw
  have sm1 : n1 ≤ 25 := by have := hs.nl; simp at this; omega
  have sm2 : n2 ≤ 70 := by have := hs.nt; rw [tks_len] at this; omega
  have hwrap : IntKind.u64.wrap (n1 : Int) = (n1 : Int) := by rw [Fl.wrap_u64]; omega
  have hwrap2 : IntKind.u64.wrap (n2 : Int) = (n2 : Int) := by rw [Fl.wrap_u64]; omega
  have FL : Hid (∀ k, ((ls.take k).flatMap T9.encLi).length ≤ 118 * 25) := Lib.hid fun k => by
    have q := T9.flat_le (f := T9.encLi) (c := 118) (l := ls.take k) fun x hx => T9.encLi_le (hs.name x (List.mem_of_mem_take hx))
    have := hs.nl
    rw [List.length_take] at q
    simp at this
    omega
  have FK : Hid (∀ k, ((tks (ms.take k)).flatMap T9.encTk).length ≤ 1100 * 70) := Lib.hid fun k => by
    have q := T9.flat_le (f := T9.encTk) (c := 1100) (l := tks (ms.take k)) fun x hx => by
      obtain ⟨m, hm, rfl⟩ := List.mem_map.1 hx
      have hm' : m.t ∈ tks ms := List.mem_map.2 ⟨m, List.mem_of_mem_take hm, rfl⟩
      exact T9.encTk_le (hs.title _ hm') (hs.few _ hm') (hs.tag _ hm')
    rw [tks_len, List.length_take] at q
    omega
  obtain ⟨p0, p1⟩ := two_cells pb1
  have Tw1 := Lib.hid (Tch.refl w.heap.size [86, 5] w1)
  clear hl hk e1 e2 hs ho pb0 b0 pw b1 pb1 z1
  go_enter Try.func26, Try.ntmps26
  go_wp2_with fail
  refine (wN1_c n1 rfl W0.out rfl (by omega) (by simp)).mono ?_
  rintro e w2 ⟨rfl, hw, ht⟩
  obtain ⟨a1, qa1⟩ : ∃ a, a = [] ++ Cd.num n1 := ⟨_, rfl⟩
  have hw : WS w.heap.size w2 (w.heap.size + 1) ([] ++ Cd.num n1) := hw
  rw [← qa1] at hw
  have Wa1 := Lib.hid hw
  have Qa1 := Lib.hid qa1
  have na1 : a1.length ≤ 9 := by
    rw [qa1, List.length_append]
    have := num_len n1
    simp only [List.length_nil]
    omega
  have Tw2 := Lib.hid (Tw1.out.trans ht)
  clear hw qa1 ht
  have pb2 := Tw2.out.blk PB.out (by decide)
  obtain ⟨p20, p21⟩ := two_cells pb2
  clear p0 p1
  go_wp2_with fail
  go_loopw [22] (fun s22 wr => ∃ k : Nat, s22 = .int .i64 k ∧ k ≤ n1 ∧ Aside (WS w.heap.size wr (w.heap.size + 1) (a1 ++ (ls.take k).flatMap T9.encLi)) ∧ Aside (Tch w.heap.size [86, 5] w1 wr)) (fun s22 _ => n1 - (intOf s22).toNat)
  case atStart => exact ⟨0, rfl, Nat.zero_le _, (by simpa using Wa1.out : WS w.heap.size w2 (w.heap.size + 1) (a1 ++ (ls.take 0).flatMap T9.encLi)), Tw2.out⟩
  case round =>
    obtain ⟨k, rfl, hk, hW, hT⟩ := hrel
    have Twr := Lib.hid hT.out
    have WW := Lib.hid hW.out
    clear hT hW
    by_cases hlt : k < n1
    · have hltz : (k : Int) < (n1 : Int) := by omega
      have BW := Lib.hid (B1.out.trans Twr.out.below)
      obtain ⟨ad, l, hA, hx, r0, r1⟩ := (HL.out.stay BW.out).at_ (k := k) (by have := E1.out; omega)
      subst hA
      have X := Lib.hid hx
      have li : l.id < 18446744073709551616 := HO.out.1 l (List.mem_of_getElem? hx)
      have ln : Hid (l.name.length ≤ 100) := Lib.hid (HS.out.name l (List.mem_of_getElem? hx))
      have fk := FL.out k
      obtain ⟨wq, hwq⟩ : ∃ u, wr.alloc (.cells #[.int .u64 (l.id : Int), .string (str l.name)] 41) = u := ⟨_, rfl⟩
      obtain ⟨lb, b2, z2⟩ := new_two hwq
      obtain ⟨l0, l1⟩ := two_cells lb
      have LB := Lib.hid lb
      have Twq : Hid (Tch w.heap.size [86, 5] w1 wq) := Lib.hid (by rw [← hwq]; exact Twr.out.alloc (by have := Twr.out.below.size; have := Z1.out; omega) _)
      have WQ : Hid (WS w.heap.size wq (w.heap.size + 1) (a1 ++ (ls.take k).flatMap T9.encLi)) := Lib.hid (by rw [← hwq]; exact WW.out.alloc _)
      clear hx lb b2 z2
      go_wp2_with fail
      refine (wN1_c l.id rfl WQ.out rfl li (by rw [List.length_append]; omega)).mono ?_
      rintro e w3 ⟨rfl, hw, ht⟩
      obtain ⟨b0, qb0⟩ : ∃ a, a = a1 ++ (ls.take k).flatMap T9.encLi := ⟨_, rfl⟩
      have Qb0 := Lib.hid qb0
      have nb0 : b0.length ≤ 3000 := by rw [qb0, List.length_append]; omega
      rw [← qb0] at hw
      clear qb0
      have LB3 := Lib.hid (ht.blk LB.out (by decide))
      obtain ⟨b1, qb1⟩ : ∃ a, a = b0 ++ Cd.num l.id := ⟨_, rfl⟩
      have hw : WS w.heap.size w3 (w.heap.size + 1) (b0 ++ Cd.num l.id) := hw
      rw [← qb1] at hw
      have Wb1 := Lib.hid hw
      have Qb1 := Lib.hid qb1
      have nb1 : b1.length ≤ 3009 := by
        rw [qb1, List.length_append]
        have := num_len l.id
        omega
      have Tw3 := Lib.hid (Twq.out.trans ht)
      clear hw qb1 ht
      obtain ⟨l30, l31⟩ := two_cells LB3.out
      obtain ⟨ck, hcv, hck⟩ := conv_str l.name w3
      have lk : l.name.length ≤ 100 := ln.out
      have W3 := Lib.hid (apart_at Wb1.out (.cells (bytesRow (str l.name) ck) 5 ((bytesRow (str l.name) ck).size, (bytesRow (str l.name) ck).size + 1)) (g := w3.heap.size) rfl)
      have L3 := Lib.hid (lies_str_at l.name ck w3 (fr := ((bytesRow (str l.name) ck).size, (bytesRow (str l.name) ck).size + 1)) (g := w3.heap.size) rfl)
      have PN : w3.heap.size ≠ w.heap.size + 1 := by have := Tw3.out.below.size; have := Z1.out; omega
      have TA := Lib.hid ((Tw3.out.alloc (by have := Tw3.out.below.size; have := Z1.out; omega) (.cells (bytesRow (str l.name) ck) 5 ((bytesRow (str l.name) ck).size, (bytesRow (str l.name) ck).size + 1))).drew)
      go_wp2_with fail
      refine (wBg_c W3.out (by simp) PN L3.out rfl (by omega) (by omega)).mono ?_
      rintro e w4 ⟨rfl, hw, ht⟩
      obtain ⟨b2, qb2⟩ : ∃ a, a = b1 ++ St.wb l.name := ⟨_, rfl⟩
      have hw : WS w.heap.size w4 (w.heap.size + 1) (b1 ++ St.wb l.name) := hw
      rw [← qb2] at hw
      have Wb2 := Lib.hid hw
      have Qb2 := Lib.hid qb2
      have nb2 : b2.length ≤ 3200 := by
        rw [qb2, List.length_append]
        have := T9.wb_le lk
        omega
      have Tw4 := Lib.hid (TA.out.trans ht)
      clear hw qb2 ht
      clear hcv hck lk W3 L3 PN TA
      go_wp2
      go_roundw
      case rel =>
        refine ⟨k + 1, by go_num, by omega, ?_, Tw4.out⟩
        have e : b2 = a1 ++ (ls.take (k + 1)).flatMap T9.encLi := by
          rw [Qb2.out, Qb1.out, Qb0.out, take_nxt X.out, List.flatMap_append]
          simp [T9.encLi]
        rw [← e]
        exact Wb2.out
      case measure => simp [intOf]; omega
    · obtain rfl : k = n1 := by omega
      have hltz : ¬ ((k : Int) < (k : Int)) := by omega
      have pbr := Twr.out.blk PB.out (by decide)
      obtain ⟨s0, s1⟩ := two_cells pbr
      have fk := FL.out k
      obtain ⟨c0, qc0⟩ : ∃ a, a = a1 ++ (ls.take k).flatMap T9.encLi := ⟨_, rfl⟩
      have Qc0 := Lib.hid qc0
      have nc0 : c0.length ≤ 3000 := by rw [qc0, List.length_append]; omega
      have WC : Hid (WS w.heap.size wr (w.heap.size + 1) c0) := Lib.hid (by rw [qc0]; exact WW.out)
      clear qc0 p20 p21 pb2 fk
      go_wp2_with fail
      refine (wN1_c n2 rfl WC.out rfl (by omega) (by omega)).mono ?_
      rintro e w5 ⟨rfl, hw, ht⟩
      obtain ⟨c1, qc1⟩ : ∃ a, a = c0 ++ Cd.num n2 := ⟨_, rfl⟩
      have hw : WS w.heap.size w5 (w.heap.size + 1) (c0 ++ Cd.num n2) := hw
      rw [← qc1] at hw
      have Wc1 := Lib.hid hw
      have Qc1 := Lib.hid qc1
      have nc1 : c1.length ≤ 3009 := by
        rw [qc1, List.length_append]
        have := num_len n2
        omega
      have Tw5 := Lib.hid (Twr.out.trans ht)
      clear hw qc1 ht
      have pb5 := Tw5.out.blk PB.out (by decide)
      obtain ⟨s50, s51⟩ := two_cells pb5
      clear s0 s1 pbr pb5
      go_wp2_with fail
      go_loopw [47] (fun s47 wr => ∃ k : Nat, s47 = .int .i64 k ∧ k ≤ n2 ∧ Aside (WS w.heap.size wr (w.heap.size + 1) (c1 ++ (tks (ms.take k)).flatMap T9.encTk)) ∧ Aside (Tch w.heap.size [86, 5] w1 wr)) (fun s47 _ => n2 - (intOf s47).toNat)
      case atStart => exact ⟨0, rfl, Nat.zero_le _, (by simpa [tks] using Wc1.out : WS w.heap.size w5 (w.heap.size + 1) (c1 ++ (tks (ms.take 0)).flatMap T9.encTk)), Tw5.out⟩
      case round =>
        obtain ⟨wo, hwo⟩ : ∃ u, u = wr := ⟨_, rfl⟩
        subst hwo
        obtain ⟨i, rfl, hi, hW, hT⟩ := hrel
        have Two := Lib.hid hT.out
        have WW2 := Lib.hid hW.out
        clear hT hW
        by_cases hlt2 : i < n2
        · have hltz2 : (i : Int) < (n2 : Int) := by omega
          have BW := Lib.hid (B1.out.trans Two.out.below)
          obtain ⟨ad2, ⟨tk, A3, c3⟩, hA, hx, hf, r0, r1, r2, r3, r4, r5, r6⟩ := (HK.out.stay BW.out).at_ (k := i) (by have := E2.out; omega)
          subst hA
          have X := Lib.hid hx
          have mem : tk ∈ tks ms := List.mem_map.2 ⟨_, List.mem_of_getElem? hx, rfl⟩
          have FI : Hid ((⟨tk, A3, c3⟩ : MTk).fine w) := Lib.hid (HK.out.2 _ (List.mem_of_getElem? hx))
          have oki := HO.out.2 tk mem
          have o1 := oki.1
          have o2 := oki.2.1
          have o3 := oki.2.2.1
          have o4 := oki.2.2.2
          have l1 : Hid (tk.title.length ≤ 100) := Lib.hid (HS.out.title tk mem)
          have l2 : tk.tags.length ≤ 8 := HS.out.few tk mem
          have l3 : Hid (∀ x ∈ tk.tags, x.length ≤ 100) := Lib.hid (HS.out.tag tk mem)
          have fk := FK.out i
          have hwrap3 : IntKind.u64.wrap (tk.tags.length : Int) = (tk.tags.length : Int) := by rw [Fl.wrap_u64]; omega
          dsimp only at r0 r1 r2 r3 r4 r5 r6
          obtain ⟨wq, hwq⟩ : ∃ u, wo.alloc (.cells #[.int .u64 (tk.id : Int), .int .u64 (tk.list : Int), .string (str tk.title), .bool tk.done, .float .f64 tk.rank, .float .f64 tk.est, .slice A3 tk.tags.length c3] 37) = u := ⟨_, rfl⟩
          obtain ⟨lb, b2, z2⟩ := new_seven hwq
          obtain ⟨l0, l1', l2', l3', l4, l5, l6⟩ := seven_cells lb
          have LB := Lib.hid lb
          have Twq : Hid (Tch w.heap.size [86, 5] w1 wq) := Lib.hid (by rw [← hwq]; exact Two.out.alloc (by have := Two.out.below.size; have := Z1.out; omega) _)
          have WQ : Hid (WS w.heap.size wq (w.heap.size + 1) (c1 ++ (tks (ms.take i)).flatMap T9.encTk)) := Lib.hid (by rw [← hwq]; exact WW2.out.alloc _)
          obtain ⟨d0, qd0⟩ : ∃ a, a = c1 ++ (tks (ms.take i)).flatMap T9.encTk := ⟨_, rfl⟩
          have Qd0 := Lib.hid qd0
          have nd0 : d0.length ≤ 80100 := by rw [qd0, List.length_append]; omega
          have WD : Hid (WS w.heap.size wq (w.heap.size + 1) d0) := Lib.hid (by rw [qd0]; exact WQ.out)
          clear hx lb b2 z2 qd0 WQ mem oki fk
          go_wp2_with fail
          refine (wN2_c tk.id tk.list rfl WD.out o1 o2 (by omega)).mono ?_
          rintro e w6 ⟨rfl, hw, ht⟩
          have LB6 := Lib.hid (ht.blk LB.out (by decide))
          obtain ⟨d1, qd1⟩ : ∃ a, a = d0 ++ (Cd.num tk.id ++ Cd.num tk.list) := ⟨_, rfl⟩
          have hw : WS w.heap.size w6 (w.heap.size + 1) (d0 ++ (Cd.num tk.id ++ Cd.num tk.list)) := hw
          rw [← qd1] at hw
          have Wd1 := Lib.hid hw
          have Qd1 := Lib.hid qd1
          have nd1 : d1.length ≤ 80200 := by
            rw [qd1, List.length_append]
            have := num_len tk.id
            have := num_len tk.list
            rw [List.length_append]
            omega
          have Tw6 := Lib.hid (Twq.out.trans ht)
          clear hw qd1 ht
          obtain ⟨x60, x61, x62, x63, x64, x65, x66⟩ := seven_cells LB6.out
          obtain ⟨ck, hcv, hck⟩ := conv_str tk.title w6
          have lk : tk.title.length ≤ 100 := l1.out
          have W3 := Lib.hid (apart_at Wd1.out (.cells (bytesRow (str tk.title) ck) 5 ((bytesRow (str tk.title) ck).size, (bytesRow (str tk.title) ck).size + 1)) (g := w6.heap.size) rfl)
          have L3 := Lib.hid (lies_str_at tk.title ck w6 (fr := ((bytesRow (str tk.title) ck).size, (bytesRow (str tk.title) ck).size + 1)) (g := w6.heap.size) rfl)
          have PN : w6.heap.size ≠ w.heap.size + 1 := by have := Tw6.out.below.size; have := Z1.out; omega
          have TA := Lib.hid ((Tw6.out.alloc (by have := Tw6.out.below.size; have := Z1.out; omega) (.cells (bytesRow (str tk.title) ck) 5 ((bytesRow (str tk.title) ck).size, (bytesRow (str tk.title) ck).size + 1))).drew)
          go_wp2_with fail
          refine (wBg_c W3.out (by simp) PN L3.out rfl (by omega) (by omega)).mono ?_
          rintro e w7 ⟨rfl, hw, ht⟩
          have LB7 := Lib.hid (ht.blk (blk_alloc LB6.out _) (by decide))
          obtain ⟨d2, qd2⟩ : ∃ a, a = d1 ++ St.wb tk.title := ⟨_, rfl⟩
          have hw : WS w.heap.size w7 (w.heap.size + 1) (d1 ++ St.wb tk.title) := hw
          rw [← qd2] at hw
          have Wd2 := Lib.hid hw
          have Qd2 := Lib.hid qd2
          have nd2 : d2.length ≤ 80400 := by
            rw [qd2, List.length_append]
            have := T9.wb_le lk
            omega
          have Tw7 := Lib.hid (TA.out.trans ht)
          clear hw qd2 ht
          clear hcv hck lk W3 L3 PN TA
          clear x60 x61 x62 x63 x64 x65 x66
          obtain ⟨x70, x71, x72, x73, x74, x75, x76⟩ := seven_cells LB7.out
          go_wp2_with fail
          refine (wG_c Wd2.out (by omega)).mono ?_
          rintro e w8 ⟨rfl, hw, ht⟩
          have LB8 := Lib.hid (ht.blk LB7.out (by decide))
          obtain ⟨d3, qd3⟩ : ∃ a, a = d2 ++ St.fl tk.done := ⟨_, rfl⟩
          have hw : WS w.heap.size w8 (w.heap.size + 1) (d2 ++ St.fl tk.done) := hw
          rw [← qd3] at hw
          have Wd3 := Lib.hid hw
          have Qd3 := Lib.hid qd3
          have nd3 : d3.length ≤ 80401 := by
            rw [qd3, List.length_append]
            have : (St.fl tk.done).length = 1 := rfl
            omega
          have Tw8 := Lib.hid (Tw7.out.trans ht)
          clear hw qd3 ht
          clear x70 x71 x72 x73 x74 x75 x76
          obtain ⟨x80, x81, x82, x83, x84, x85, x86⟩ := seven_cells LB8.out
          go_wp2_with fail
          refine (wF_c Wd3.out o3 (by omega)).mono ?_
          rintro e w9 ⟨rfl, hw, ht⟩
          have LB9 := Lib.hid (ht.blk LB8.out (by decide))
          obtain ⟨d4, qd4⟩ : ∃ a, a = d3 ++ Cd.fix (Fl.key tk.rank).toNat 8 := ⟨_, rfl⟩
          have hw : WS w.heap.size w9 (w.heap.size + 1) (d3 ++ Cd.fix (Fl.key tk.rank).toNat 8) := hw
          rw [← qd4] at hw
          have Wd4 := Lib.hid hw
          have Qd4 := Lib.hid qd4
          have nd4 : d4.length ≤ 80409 := by
            rw [qd4, List.length_append]
            rw [Cd.fix_len]
            omega
          have Tw9 := Lib.hid (Tw8.out.trans ht)
          clear hw qd4 ht
          clear x80 x81 x82 x83 x84 x85 x86
          obtain ⟨x90, x91, x92, x93, x94, x95, x96⟩ := seven_cells LB9.out
          go_wp2_with fail
          refine (wF_c Wd4.out o4 (by omega)).mono ?_
          rintro e w10 ⟨rfl, hw, ht⟩
          have LB10 := Lib.hid (ht.blk LB9.out (by decide))
          obtain ⟨d5, qd5⟩ : ∃ a, a = d4 ++ Cd.fix (Fl.key tk.est).toNat 8 := ⟨_, rfl⟩
          have hw : WS w.heap.size w10 (w.heap.size + 1) (d4 ++ Cd.fix (Fl.key tk.est).toNat 8) := hw
          rw [← qd5] at hw
          have Wd5 := Lib.hid hw
          have Qd5 := Lib.hid qd5
          have nd5 : d5.length ≤ 80417 := by
            rw [qd5, List.length_append]
            rw [Cd.fix_len]
            omega
          have Tw10 := Lib.hid (Tw9.out.trans ht)
          clear hw qd5 ht
          clear x90 x91 x92 x93 x94 x95 x96
          obtain ⟨x100, x101, x102, x103, x104, x105, x106⟩ := seven_cells LB10.out
          go_wp2_with fail
          refine (wN1_c tk.tags.length rfl Wd5.out rfl (by omega) (by omega)).mono ?_
          rintro e w11 ⟨rfl, hw, ht⟩
          have LB11 := Lib.hid (ht.blk LB10.out (by decide))
          obtain ⟨d6, qd6⟩ : ∃ a, a = d5 ++ Cd.num tk.tags.length := ⟨_, rfl⟩
          have hw : WS w.heap.size w11 (w.heap.size + 1) (d5 ++ Cd.num tk.tags.length) := hw
          rw [← qd6] at hw
          have Wd6 := Lib.hid hw
          have Qd6 := Lib.hid qd6
          have nd6 : d6.length ≤ 80426 := by
            rw [qd6, List.length_append]
            have := num_len tk.tags.length
            omega
          have Tw11 := Lib.hid (Tw10.out.trans ht)
          clear hw qd6 ht
          clear x100 x101 x102 x103 x104 x105 x106
          obtain ⟨x110, x111, x112, x113, x114, x115, x116⟩ := seven_cells LB11.out
          have FT : Hid (∀ j, ((tk.tags.take j).flatMap St.wb).length ≤ 109 * 8) := Lib.hid fun j => by
            have q := T9.flat_le (f := St.wb) (c := 109) (l := tk.tags.take j) fun x hx => T9.wb_le (l3.out x (List.mem_of_mem_take hx))
            rw [List.length_take] at q
            omega
          go_wp2_with fail
          go_loopw [85] (fun s85 wr => ∃ j : Nat, s85 = .int .i64 j ∧ j ≤ tk.tags.length ∧ Aside (WS w.heap.size wr (w.heap.size + 1) (d6 ++ (tk.tags.take j).flatMap St.wb)) ∧ Aside (Tch w.heap.size [86, 5] w1 wr)) (fun s85 _ => tk.tags.length - (intOf s85).toNat)
          case atStart => exact ⟨0, rfl, Nat.zero_le _, (by simpa using Wd6.out : WS w.heap.size w11 (w.heap.size + 1) (d6 ++ (tk.tags.take 0).flatMap St.wb)), Tw11.out⟩
          case round =>
            obtain ⟨j, rfl, hj, hW, hT⟩ := hrel
            have Twr := Lib.hid hT.out
            have WW3 := Lib.hid hW.out
            clear hT hW
            by_cases hlt3 : j < tk.tags.length
            · have hltz3 : (j : Int) < (tk.tags.length : Int) := by omega
              obtain ⟨ad3, x, hA, hx, hc⟩ := (FI.out.gl.stay (B1.out.trans Twr.out.below)).at_ (k := j) hlt3
              have hA : A3 = some ad3 := hA
              subst hA
              have hx : tk.tags[j]? = some x := hx
              have XX := Lib.hid hx
              have lx := Lib.hid (l3.out x (List.mem_of_getElem? hx))
              have ft := FT.out j
              obtain ⟨e0, qe0⟩ : ∃ a, a = d6 ++ (tk.tags.take j).flatMap St.wb := ⟨_, rfl⟩
              have Qe0 := Lib.hid qe0
              have ne0 : e0.length ≤ 82000 := by rw [qe0, List.length_append]; omega
              have We0 : Hid (WS w.heap.size wr (w.heap.size + 1) e0) := Lib.hid (by rw [qe0]; exact WW3.out)
              clear hx qe0 ft
              obtain ⟨ck, hcv, hck⟩ := conv_str x wr
              have lk : x.length ≤ 100 := lx.out
              have W3 := Lib.hid (apart_at We0.out (.cells (bytesRow (str x) ck) 5 ((bytesRow (str x) ck).size, (bytesRow (str x) ck).size + 1)) (g := wr.heap.size) rfl)
              have L3 := Lib.hid (lies_str_at x ck wr (fr := ((bytesRow (str x) ck).size, (bytesRow (str x) ck).size + 1)) (g := wr.heap.size) rfl)
              have PN : wr.heap.size ≠ w.heap.size + 1 := by have := Twr.out.below.size; have := Z1.out; omega
              have TA := Lib.hid ((Twr.out.alloc (by have := Twr.out.below.size; have := Z1.out; omega) (.cells (bytesRow (str x) ck) 5 ((bytesRow (str x) ck).size, (bytesRow (str x) ck).size + 1))).drew)
              go_wp2_with fail
              refine (wBg_c W3.out (by simp) PN L3.out rfl (by omega) (by omega)).mono ?_
              rintro e w12 ⟨rfl, hw, ht⟩
              obtain ⟨e1, qe1⟩ : ∃ a, a = e0 ++ St.wb x := ⟨_, rfl⟩
              have hw : WS w.heap.size w12 (w.heap.size + 1) (e0 ++ St.wb x) := hw
              rw [← qe1] at hw
              have We1 := Lib.hid hw
              have Qe1 := Lib.hid qe1
              have ne1 : e1.length ≤ 82200 := by
                rw [qe1, List.length_append]
                have := T9.wb_le lk
                omega
              have Tw12 := Lib.hid (TA.out.trans ht)
              clear hw qe1 ht
              clear hcv hck lk W3 L3 PN TA
              go_wp2
              go_roundw
              case rel =>
                refine ⟨j + 1, by go_num, by omega, ?_, Tw12.out⟩
                have e : e1 = d6 ++ (tk.tags.take (j + 1)).flatMap St.wb := by
                  rw [Qe1.out, Qe0.out, take_nxt XX.out, List.flatMap_append]
                  simp
                rw [← e]
                exact We1.out
              case measure => simp [intOf]; omega
            · obtain rfl : j = tk.tags.length := by omega
              have hltz3 : ¬ ((tk.tags.length : Int) < (tk.tags.length : Int)) := by omega
              go_wp2
              go_roundw
              case rel =>
                refine ⟨i + 1, by go_num, by omega, ?_, Twr.out⟩
                have e : d6 ++ (tk.tags.take tk.tags.length).flatMap St.wb = c1 ++ (tks (ms.take (i + 1))).flatMap T9.encTk := by
                  rw [Qd6.out, Qd5.out, Qd4.out, Qd3.out, Qd2.out, Qd1.out, Qd0.out, take_nxt X.out, tks_snoc, List.flatMap_append, List.take_length]
                  simp [T9.encTk]
                rw [← e]
                exact WW3.out
              case measure => simp [intOf]; omega
        · obtain rfl : i = n2 := by omega
          have hltz2 : ¬ ((i : Int) < (i : Int)) := by omega
          have fk := FK.out i
          have EN : Hid (c1 ++ (tks (ms.take i)).flatMap T9.encTk = T9.bts ⟨ls, tks ms⟩) := Lib.hid (by
            rw [Qc1.out, Qc0.out, Qa1.out]
            have q1 := E1.out
            have q2 := E2.out
            unfold T9.bts
            dsimp only
            rw [← q1, tks_len, ← q2]
            rw [q1, List.take_length, q2, List.take_length]
            simp)
          have BY := Lib.hid (wBytes9_c WW2.out (by rw [List.length_append]; omega))
          rw [EN.out] at BY
          go_wp2_with fail
          refine BY.out.mono ?_
          rintro e w12 ⟨A9, n9, c9, rfl, ho, hb⟩
          have HO9 := Lib.hid ho
          have HB9 := Lib.hid hb
          clear ho hb
          go_wp2
          go_ret
          have BF := B1.out.trans Two.out.below
          exact ⟨A9, n9, c9, rfl, own_less HO9.out BF.size, BF.trans (HB9.out.mono BF.size)⟩
end Go.Proofs.Ytbgdmmemahfpbaa
