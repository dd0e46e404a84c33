/- Stage 9: the document's Put (written by wip/gen9rp.py behind wip/XTal.head). -/
import Derived.Test.YtbgdmmemahfpbaaTaa
import Derived.Test.YtbgdmmemahfpbaaWj
import Derived.Test.YtbgdmmemahfpbaaTak
import Derived.Deep.DeepCutAuto
import Derived.Deep.RegionHeld3
namespace Go.Proofs.Ytbgdmmemahfpbaa
open Go.RowKit Go.Lib
set_option maxRecDepth 100000

theorem conv_new (l : List UInt8) (w : World) : ∃ c w', (convert 9 47 (.string (str l))).run Try.prog w = .ok (.slice (some ⟨w.heap.size, 0, none⟩) l.length c) w' ∧ Lies w' 0 5 (some ⟨w.heap.size, 0, none⟩) (bcells l) ∧ w'.heap.size = w.heap.size + 1 ∧ (∀ B, B ≤ w.heap.size → Tch B [] w w') ∧ ∀ B v n xs, w.ownsRow B 5 1 v n xs → w'.ownsRow B 5 1 v n xs ∧ ∀ k, v.ownBlock = some k → k ≠ w.heap.size := by
  obtain ⟨c, h, _⟩ := conv_str l w
  refine ⟨c, _, h, lies_str l c w.drew, by simp, fun B hB => (Tch.refl B [] w).drew.alloc hB _, fun B v n xs ho => ⟨World.ownsRow.alloc (w := w.drew) ho _, fun k hk e => ?_⟩⟩
  obtain ⟨_, cs, fr, r⟩ := own_row ho k hk
  have := lt_of_block r
  omega
theorem lies_same {w w' : World} {g : Nat} {t : TypeId} {xs : List Value} (h : Lies w 0 t (some ⟨g, 0, none⟩) xs) (hg : w'.heap[g]? = w.heap[g]?) : Lies w' 0 t (some ⟨g, 0, none⟩) xs := fun q => by
  obtain ⟨ad, e1, h1, h2⟩ := h q
  injection e1 with e1
  subst e1
  refine ⟨_, rfl, .inr ?_, fun j u hu => (World.cell?_of_block (by rw [addr_block]; exact hg)).trans (h2 j u hu)⟩
  rcases h1 with h1 | ⟨cs, fr, h1⟩
  · omega
  · exact ⟨cs, fr, hg.trans h1⟩

set_option linter.unusedSimpArgs false in
set_option maxHeartbeats 8000000 in
set_option maxRecDepth 100000 in
theorem refPut_c {A A2 : Option Addr} {n1 n2 c c2 : Nat} {ls : List T9.Li} {ms : List MTk} {w : World} (hl : LL w A ls) (hk : KL w A2 ms) (e1 : n1 = ls.length) (e2 : n2 = ms.length) (hs : (⟨ls, tks ms⟩ : T9.St).light) (ho : (⟨ls, tks ms⟩ : T9.St).ok) :
    Calls Try.prog 27 #[.agg #[.slice A n1 c, .slice A2 n2 c2]] w (CloneOk (T9.bts ⟨ls, tks ms⟩) w) := by
  have E1 := Lib.hid e1
  have E2 := Lib.hid e2
  have HS := Lib.hid hs
  have HO := Lib.hid ho
  have HL := Lib.hid hl
  have HK := Lib.hid hk
  obtain ⟨w1, hw1⟩ : ∃ u, w.alloc (.cells #[.slice A n1 c, .slice A2 n2 c2] 25) = u := ⟨_, rfl⟩
  obtain ⟨pb1, b1, z1⟩ := new_two hw1
  have B1 := Lib.hid b1
  have HB : Hid (w.heap.size ≤ w1.heap.size) := Lib.hid b1.size
  have PB := Lib.hid pb1
  have sm1 : n1 ≤ 25 := by have := hs.nl; simp at this; omega
  have sm2 : n2 ≤ 70 := by have := hs.nt; rw [tks_len] at this; omega
  have hwrap : IntKind.u64.wrap (n1 : Int) = (n1 : Int) := by rw [Fl.wrap_u64]; omega
  have hwrap2 : IntKind.u64.wrap (n2 : Int) = (n2 : Int) := by rw [Fl.wrap_u64]; omega
  have FL : Hid (∀ k, ((ls.take k).flatMap T9.encLi).length ≤ 118 * 25) := Lib.hid fun k => by
    have q := T9.flat_le (f := T9.encLi) (c := 118) (l := ls.take k) fun x hx => T9.encLi_le (hs.name x (List.mem_of_mem_take hx))
    have := hs.nl
    rw [List.length_take] at q
    simp at this
    omega
  have FK : Hid (∀ k, ((tks (ms.take k)).flatMap T9.encTk).length ≤ 1100 * 70) := Lib.hid fun k => by
    have q := T9.flat_le (f := T9.encTk) (c := 1100) (l := tks (ms.take k)) fun x hx => by
      obtain ⟨m, hm, rfl⟩ := List.mem_map.1 hx
      have hm' : m.t ∈ tks ms := List.mem_map.2 ⟨m, List.mem_of_mem_take hm, rfl⟩
      exact T9.encTk_le (hs.title _ hm') (hs.few _ hm') (hs.tag _ hm')
    rw [tks_len, List.length_take] at q
    omega
  obtain ⟨p0, p1⟩ := two_cells pb1
  clear hl hk e1 e2 hs ho b1 pb1 z1
  go_enter Try.func27, Try.ntmps27
  go_wp2_with fail
  refine (rN_c (B := w.heap.size) (l := []) (n := (n1 : Int)) (World.ownsRow_nil _ _ _ _) HB.out (by omega) (by omega) (by simp)).mono ?_
  rintro e w2 ⟨A3, n3, c3, rfl, ho3, t3⟩
  rw [Int.toNat_natCast] at ho3
  obtain ⟨a1, qa1⟩ : ∃ a, a = [] ++ Cd.num n1 := ⟨_, rfl⟩
  rw [← qa1] at ho3
  have O2 := Lib.hid ho3
  have Qa1 := Lib.hid qa1
  have na1 : a1.length ≤ 9 := by
    rw [qa1, List.length_append]
    have := num_len n1
    simp only [List.length_nil]
    omega
  have T2 := Lib.hid t3
  clear ho3 qa1 t3
  have pb2 := T2.out.blk PB.out (by decide)
  obtain ⟨p20, p21⟩ := two_cells pb2
  clear p0 p1
  go_wp2_with fail
  go_loopw [3, 18] (fun s3 s18 wr => ∃ (k : Nat) (A n c : _), s3 = .slice A n c ∧ s18 = .int .i64 k ∧ k ≤ n1 ∧ Aside (wr.ownsRow w.heap.size 5 1 (.slice A n c) (a1 ++ (ls.take k).flatMap T9.encLi).length (bcells (a1 ++ (ls.take k).flatMap T9.encLi))) ∧ Aside (Tch w.heap.size [5] w1 wr)) (fun _ s18 _ => n1 - (intOf s18).toNat)
  case atStart => exact ⟨0, _, _, _, rfl, rfl, Nat.zero_le _, (by rw [List.take_zero, List.flatMap_nil, List.append_nil]; exact O2.out : w2.ownsRow w.heap.size 5 1 (.slice A3 n3 c3) (a1 ++ (ls.take 0).flatMap T9.encLi).length (bcells (a1 ++ (ls.take 0).flatMap T9.encLi))), T2.out⟩
  case round =>
    obtain ⟨wo, hwo⟩ : ∃ u, u = wr := ⟨_, rfl⟩
    subst hwo
    obtain ⟨k, A3, n3, c3, rfl, rfl, hk, hW, hT⟩ := hrel
    have Two := Lib.hid hT.out
    have WW := Lib.hid hW.out
    clear hT hW
    by_cases hlt : k < n1
    · have hltz : (k : Int) < (n1 : Int) := by omega
      have BW := Lib.hid (B1.out.trans Two.out.below)
      obtain ⟨ad, l, hA, hx, r0, r1⟩ := (HL.out.stay BW.out).at_ (k := k) (by have := E1.out; omega)
      subst hA
      have X := Lib.hid hx
      have li : l.id < 18446744073709551616 := HO.out.1 l (List.mem_of_getElem? hx)
      have ln : Hid (l.name.length ≤ 100) := Lib.hid (HS.out.name l (List.mem_of_getElem? hx))
      have fk := FL.out k
      obtain ⟨wq, hwq⟩ : ∃ u, wo.alloc (.cells #[.int .u64 (l.id : Int), .string (str l.name)] 41) = u := ⟨_, rfl⟩
      obtain ⟨lb, b2, z2⟩ := new_two hwq
      have LB := Lib.hid lb
      have TQ : Hid (Tch w.heap.size [5] w1 wq.drew) := Lib.hid (by rw [← hwq]; exact (Two.out.alloc (by have := Two.out.below.size; have := HB.out; omega) _).drew)
      obtain ⟨b0, qb0⟩ : ∃ a, a = a1 ++ (ls.take k).flatMap T9.encLi := ⟨_, rfl⟩
      have Qb0 := Lib.hid qb0
      have nb0 : b0.length ≤ 3000 := by rw [qb0, List.length_append]; omega
      have OQ : Hid (wq.drew.ownsRow w.heap.size 5 1 (.slice A3 n3 c3) b0.length (bcells b0)) := Lib.hid (by rw [← hwq, qb0]; exact WW.out.alloc _)
      have NL : Hid (b0.length ≤ 90000 ∧ (Cd.num l.id).length ≤ 9 ∧ (Cd.num l.name.length).length ≤ 9 ∧ l.name.length ≤ 100) := Lib.hid ⟨by omega, num_len _, num_len _, ln.out⟩
      clear hx lb b2 z2 qb0 fk nb0
      go_wp2_with fail
      refine wp_region_held_drew (S := fun u => u.heap[wo.heap.size]? = some (.cells #[.int .u64 (l.id : Int), .string (str l.name)] 41 (0, 0))) (by kernel_rfl) (LB.out) (fun S0 => ?_)
      refine wpAnyH_take (i := 0) (v := ?_) rfl (by kernel_rfl) (by kernel_rfl) (by kernel_rfl) (fun _ _ _ h => h) (Or.inl ⟨by rfl, ?_⟩) S0 ?_
      rotate_left
      · intro u hu
        go_simp
        try rfl
      try simp only [Act.put, List.setIfInBounds_toArray, List.set_cons_zero, List.set_cons_succ, List.getElem_toArray, List.getElem_cons_zero, List.getElem_cons_succ]
      refine wpAnyH_take (i := 1) (v := ?_) rfl (by kernel_rfl) (by kernel_rfl) (by kernel_rfl) (fun _ _ _ h => h) (Or.inl ⟨by rfl, ?_⟩) S0 ?_
      rotate_left
      · intro u hu
        go_simp
        try rfl
      try simp only [Act.put, List.setIfInBounds_toArray, List.set_cons_zero, List.set_cons_succ, List.getElem_toArray, List.getElem_cons_zero, List.getElem_cons_succ]
      refine wpAnyH_take (i := 2) (v := ?_) rfl (by kernel_rfl) (by kernel_rfl) (by kernel_rfl) (fun _ _ _ h => h) (Or.inl ⟨by rfl, ?_⟩) S0 ?_
      rotate_left
      · intro u hu
        obtain ⟨l0, l1⟩ := two_cells hu
        go_simp
        try rfl
      try simp only [Act.put, List.setIfInBounds_toArray, List.set_cons_zero, List.set_cons_succ, List.getElem_toArray, List.getElem_cons_zero, List.getElem_cons_succ]
      refine wpAnyH_take (i := 4) (v := ?_) rfl (by kernel_rfl) (by kernel_rfl) (by kernel_rfl) (fun _ _ _ h => h) (Or.inl ⟨by rfl, ?_⟩) S0 ?_
      rotate_left
      · intro u hu
        go_simp
        try rfl
      try simp only [Act.put, List.setIfInBounds_toArray, List.set_cons_zero, List.set_cons_succ, List.getElem_toArray, List.getElem_cons_zero, List.getElem_cons_succ]
      refine wpAnyH_take (i := 5) (v := ?_) rfl (by kernel_rfl) (by kernel_rfl) (by kernel_rfl) (fun _ _ _ h => h) (Or.inl ⟨by rfl, ?_⟩) S0 ?_
      rotate_left
      · intro u hu
        obtain ⟨l0, l1⟩ := two_cells hu
        go_simp
        try rfl
      try simp only [Act.put, List.setIfInBounds_toArray, List.set_cons_zero, List.set_cons_succ, List.getElem_toArray, List.getElem_cons_zero, List.getElem_cons_succ]
      refine wpAnyH_ready (rs := [3, 6]) (by kernel_rfl) (by simp) (AllReadyH.cons rfl (fun K hK => ?_) (AllReadyH.cons rfl (fun K hK => ?_) AllReadyH.nil))
      · go_simp
        refine (rN_c (n := (l.id : Int)) OQ.out (by have := HB.out; have := TQ.out.size; omega) (by omega) (by omega) (by have := NL.out; (try simp only [List.length_append, List.length_cons, List.length_nil, Cd.fix_len]); omega)).mono ?_
        rintro e v1 ⟨A1, n1, c1, rfl, O1, t1⟩
        rw [Int.toNat_natCast] at O1
        have S1 := t1.blk S0 (by decide)
        have T1 := TQ.out.trans t1
        refine hK.out _ _ S1 (fun _ => ?_)
        clear hK K S0
        have S0 := S1
        clear S1
        try simp only [Act.put, List.setIfInBounds_toArray, List.set_cons_zero, List.set_cons_succ, List.getElem_toArray, List.getElem_cons_zero, List.getElem_cons_succ]
        refine anyH_one9 (i := 6) (by kernel_rfl) rfl (fun K hK => ?_)
        obtain ⟨ck, v2, hcv, LS, zc, tc, ow⟩ := conv_new l.name v1
        go_simp
        have S1 := (tc w.heap.size (by have := HB.out; have := T1.size; omega)).blk S0 (by decide)
        have T2 := T1.trans ((tc w.heap.size (by have := HB.out; have := T1.size; omega)).more (by simp))
        obtain ⟨O2, NE2⟩ := ow _ _ _ _ O1
        have zg2 : v1.heap.size < v2.heap.size := by omega
        refine hK _ _ S1 ?_
        clear hK K S0
        have S0 := S1
        clear S1
        try simp only [Act.put, List.setIfInBounds_toArray, List.set_cons_zero, List.set_cons_succ, List.getElem_toArray, List.getElem_cons_zero, List.getElem_cons_succ]
        refine anyH_one9 (i := 7) (by kernel_rfl) rfl (fun K hK => ?_)
        go_simp
        refine (rBG_c (g := v1.heap.size) O2 (by have := HB.out; have := T2.size; omega) zg2 NE2 LS rfl (by have := NL.out; (try simp only [List.length_append, List.length_cons, List.length_nil, Cd.fix_len]); omega)).mono ?_
        rintro e v3 ⟨A3, n3, c3, rfl, O3, t3⟩
        have S1 := t3.blk S0 (by decide)
        have T3 := T2.trans t3
        refine hK _ _ S1 ?_
        clear hK K S0
        have S0 := S1
        clear S1
        try simp only [Act.put, List.setIfInBounds_toArray, List.set_cons_zero, List.set_cons_succ, List.getElem_toArray, List.getElem_cons_zero, List.getElem_cons_succ]
        refine wpAnyH_take (i := 8) (v := ?_) rfl (by kernel_rfl) (by kernel_rfl) (by kernel_rfl) (fun _ _ _ h => h) (Or.inl ⟨by rfl, ?_⟩) S0 ?_
        rotate_left
        · intro u hu
          go_simp
          try rfl
        try simp only [Act.put, List.setIfInBounds_toArray, List.set_cons_zero, List.set_cons_succ, List.getElem_toArray, List.getElem_cons_zero, List.getElem_cons_succ]
        refine wpAnyH_done (by kernel_rfl) ?_ _
        have OE := Lib.hid O3
        have TE := Lib.hid T3
        go_wp2
        go_roundw
        case rel =>
          refine ⟨k + 1, A3, _, _, rfl, by go_num, by omega, ?_, TE.out⟩
          have e : (b0 ++ Cd.num l.id) ++ (Cd.num l.name.length ++ l.name) = a1 ++ (ls.take (k + 1)).flatMap T9.encLi := by
            rw [Qb0.out, take_nxt X.out, List.flatMap_append]
            simp [T9.encLi, St.wb]
          rw [← e]
          exact OE.out
        case measure => simp [intOf]; omega
      · obtain ⟨ck, v1, hcv, LS, zc, tc, ow⟩ := conv_new l.name wq.drew
        go_simp
        have S1 := (tc w.heap.size (by have := HB.out; have := TQ.out.size; omega)).blk S0 (by decide)
        have T1 := TQ.out.trans ((tc w.heap.size (by have := HB.out; have := TQ.out.size; omega)).more (by simp))
        obtain ⟨O1, NE1⟩ := ow _ _ _ _ OQ.out
        have zg1 : wq.drew.heap.size < v1.heap.size := by omega
        refine hK.out _ _ S1 (fun _ => ?_)
        clear hK K S0
        have S0 := S1
        clear S1
        try simp only [Act.put, List.setIfInBounds_toArray, List.set_cons_zero, List.set_cons_succ, List.getElem_toArray, List.getElem_cons_zero, List.getElem_cons_succ]
        refine anyH_one9 (i := 3) (by kernel_rfl) rfl (fun K hK => ?_)
        go_simp
        refine (rNG_c (g := wq.drew.heap.size) (n := (l.id : Int)) O1 (by have := HB.out; have := T1.size; omega) zg1 NE1 (by omega) (by omega) (by have := NL.out; (try simp only [List.length_append, List.length_cons, List.length_nil, Cd.fix_len]); omega)).mono ?_
        rintro e v2 ⟨A2, n2, c2, rfl, O2, t2, hg2, NE2⟩
        rw [Int.toNat_natCast] at O2
        have S1 := t2.blk S0 (by decide)
        have T2 := T1.trans t2
        have LS := lies_same LS hg2
        have zg2 := Nat.lt_of_lt_of_le zg1 t2.size
        refine hK _ _ S1 ?_
        clear hK K S0
        have S0 := S1
        clear S1
        try simp only [Act.put, List.setIfInBounds_toArray, List.set_cons_zero, List.set_cons_succ, List.getElem_toArray, List.getElem_cons_zero, List.getElem_cons_succ]
        refine anyH_one9 (i := 7) (by kernel_rfl) rfl (fun K hK => ?_)
        go_simp
        refine (rBG_c (g := wq.drew.heap.size) O2 (by have := HB.out; have := T2.size; omega) zg2 NE2 LS rfl (by have := NL.out; (try simp only [List.length_append, List.length_cons, List.length_nil, Cd.fix_len]); omega)).mono ?_
        rintro e v3 ⟨A3, n3, c3, rfl, O3, t3⟩
        have S1 := t3.blk S0 (by decide)
        have T3 := T2.trans t3
        refine hK _ _ S1 ?_
        clear hK K S0
        have S0 := S1
        clear S1
        try simp only [Act.put, List.setIfInBounds_toArray, List.set_cons_zero, List.set_cons_succ, List.getElem_toArray, List.getElem_cons_zero, List.getElem_cons_succ]
        refine wpAnyH_take (i := 8) (v := ?_) rfl (by kernel_rfl) (by kernel_rfl) (by kernel_rfl) (fun _ _ _ h => h) (Or.inl ⟨by rfl, ?_⟩) S0 ?_
        rotate_left
        · intro u hu
          go_simp
          try rfl
        try simp only [Act.put, List.setIfInBounds_toArray, List.set_cons_zero, List.set_cons_succ, List.getElem_toArray, List.getElem_cons_zero, List.getElem_cons_succ]
        refine wpAnyH_done (by kernel_rfl) ?_ _
        have OE := Lib.hid O3
        have TE := Lib.hid T3
        go_wp2
        go_roundw
        case rel =>
          refine ⟨k + 1, A3, _, _, rfl, by go_num, by omega, ?_, TE.out⟩
          have e : (b0 ++ Cd.num l.id) ++ (Cd.num l.name.length ++ l.name) = a1 ++ (ls.take (k + 1)).flatMap T9.encLi := by
            rw [Qb0.out, take_nxt X.out, List.flatMap_append]
            simp [T9.encLi, St.wb]
          rw [← e]
          exact OE.out
        case measure => simp [intOf]; omega
    · obtain rfl : k = n1 := by omega
      have hltz : ¬ ((k : Int) < (k : Int)) := by omega
      have pbr := Two.out.blk PB.out (by decide)
      obtain ⟨s0, s1⟩ := two_cells pbr
      have fk := FL.out k
      obtain ⟨c0, qc0⟩ : ∃ a, a = a1 ++ (ls.take k).flatMap T9.encLi := ⟨_, rfl⟩
      have Qc0 := Lib.hid qc0
      have nc0 : c0.length ≤ 3000 := by rw [qc0, List.length_append]; omega
      have WC : Hid (wo.ownsRow w.heap.size 5 1 (.slice A3 n3 c3) c0.length (bcells c0)) := Lib.hid (by rw [qc0]; exact WW.out)
      clear qc0 p20 p21 pb2 fk
      go_wp2_with fail
      refine (rN_c (n := (n2 : Int)) WC.out (by have := HB.out; have := Two.out.size; omega) (by omega) (by omega) (by omega)).mono ?_
      rintro e w5 ⟨A5, n5, c5, rfl, ho5, t5⟩
      rw [Int.toNat_natCast] at ho5
      obtain ⟨c1, qc1⟩ : ∃ a, a = c0 ++ Cd.num n2 := ⟨_, rfl⟩
      rw [← qc1] at ho5
      have O5 := Lib.hid ho5
      have Qc1 := Lib.hid qc1
      have nc1 : c1.length ≤ 3009 := by
        rw [qc1, List.length_append]
        have := num_len n2
        omega
      have T5 := Lib.hid (Two.out.trans t5)
      clear ho5 qc1 t5
      have pb5 := T5.out.blk PB.out (by decide)
      obtain ⟨s50, s51⟩ := two_cells pb5
      clear s0 s1 pbr pb5
      go_wp2_with fail
      go_loopw [3, 40] (fun s3 s40 wr => ∃ (k : Nat) (A n c : _), s3 = .slice A n c ∧ s40 = .int .i64 k ∧ k ≤ n2 ∧ Aside (wr.ownsRow w.heap.size 5 1 (.slice A n c) (c1 ++ (tks (ms.take k)).flatMap T9.encTk).length (bcells (c1 ++ (tks (ms.take k)).flatMap T9.encTk))) ∧ Aside (Tch w.heap.size [5] w1 wr)) (fun _ s40 _ => n2 - (intOf s40).toNat)
      case atStart => exact ⟨0, _, _, _, rfl, rfl, Nat.zero_le _, (by rw [List.take_zero]; show w5.ownsRow w.heap.size 5 1 (.slice A5 n5 c5) (c1 ++ []).length (bcells (c1 ++ [])); rw [List.append_nil]; exact O5.out : w5.ownsRow w.heap.size 5 1 (.slice A5 n5 c5) (c1 ++ (tks (ms.take 0)).flatMap T9.encTk).length (bcells (c1 ++ (tks (ms.take 0)).flatMap T9.encTk))), T5.out⟩
      case round =>
        clear Two WW WC
        obtain ⟨wo, hwo⟩ : ∃ u, u = wr := ⟨_, rfl⟩
        subst hwo
        obtain ⟨i, A6, n6, c6, rfl, rfl, hi, hW, hT⟩ := hrel
        have Two := Lib.hid hT.out
        have WW := Lib.hid hW.out
        clear hT hW
        by_cases hlt2 : i < n2
        · have hltz2 : (i : Int) < (n2 : Int) := by omega
          have BW := Lib.hid (B1.out.trans Two.out.below)
          obtain ⟨ad2, ⟨tk, A3, c3⟩, hA, hx, hf, r0, r1, r2, r3, r4, r5, r6⟩ := (HK.out.stay BW.out).at_ (k := i) (by have := E2.out; omega)
          subst hA
          have X := Lib.hid hx
          have mem : tk ∈ tks ms := List.mem_map.2 ⟨_, List.mem_of_getElem? hx, rfl⟩
          have FI : Hid ((⟨tk, A3, c3⟩ : MTk).fine w) := Lib.hid (HK.out.2 _ (List.mem_of_getElem? hx))
          have oki := HO.out.2 tk mem
          have o1 := oki.1
          have o2 := oki.2.1
          have o3 := oki.2.2.1
          have o4 := oki.2.2.2
          have l1 : Hid (tk.title.length ≤ 100) := Lib.hid (HS.out.title tk mem)
          have l2 : tk.tags.length ≤ 8 := HS.out.few tk mem
          have l3 : Hid (∀ x ∈ tk.tags, x.length ≤ 100) := Lib.hid (HS.out.tag tk mem)
          have fk := FK.out i
          have hwrap3 : IntKind.u64.wrap (tk.tags.length : Int) = (tk.tags.length : Int) := by rw [Fl.wrap_u64]; omega
          dsimp only at r0 r1 r2 r3 r4 r5 r6
          obtain ⟨wq, hwq⟩ : ∃ u, wo.alloc (.cells #[.int .u64 (tk.id : Int), .int .u64 (tk.list : Int), .string (str tk.title), .bool tk.done, .float .f64 tk.rank, .float .f64 tk.est, .slice A3 tk.tags.length c3] 37) = u := ⟨_, rfl⟩
          obtain ⟨lb, b2, z2⟩ := new_seven hwq
          have LB := Lib.hid lb
          have TQ : Hid (Tch w.heap.size [5] w1 wq.drew) := Lib.hid (by rw [← hwq]; exact (Two.out.alloc (by have := Two.out.below.size; have := HB.out; omega) _).drew)
          obtain ⟨d0, qd0⟩ : ∃ a, a = c1 ++ (tks (ms.take i)).flatMap T9.encTk := ⟨_, rfl⟩
          have Qd0 := Lib.hid qd0
          have nd0 : d0.length ≤ 80100 := by rw [qd0, List.length_append]; omega
          have OQ : Hid (wq.drew.ownsRow w.heap.size 5 1 (.slice A6 n6 c6) d0.length (bcells d0)) := Lib.hid (by rw [← hwq, qd0]; exact WW.out.alloc _)
          have NL : Hid (d0.length ≤ 90000 ∧ (Cd.num tk.id).length ≤ 9 ∧ (Cd.num tk.list).length ≤ 9 ∧ (Cd.num tk.title.length).length ≤ 9 ∧ tk.title.length ≤ 100) := Lib.hid ⟨by omega, num_len _, num_len _, num_len _, l1.out⟩
          clear hx lb b2 z2 qd0 mem oki fk
          go_upto_region 11 with fail
          go_cut [3] (fun s3 wd => ∃ (A n c : _), s3 = .slice A n c ∧ wd.ownsRow w.heap.size 5 1 (.slice A n c) (((d0 ++ Cd.num tk.id) ++ Cd.num tk.list) ++ (Cd.num tk.title.length ++ tk.title)).length (bcells (((d0 ++ Cd.num tk.id) ++ Cd.num tk.list) ++ (Cd.num tk.title.length ++ tk.title))) ∧ Tch w.heap.size [5] w1 wd ∧ wd.heap[wo.heap.size]? = some (.cells #[.int .u64 (tk.id : Int), .int .u64 (tk.list : Int), .string (str tk.title), .bool tk.done, .float .f64 tk.rank, .float .f64 tk.est, .slice A3 tk.tags.length c3] 37 (0, 0)))
          case first => as_aux_lemma =>
            refine wp_region_held_drew (S := fun u => u.heap[wo.heap.size]? = some (.cells #[.int .u64 (tk.id : Int), .int .u64 (tk.list : Int), .string (str tk.title), .bool tk.done, .float .f64 tk.rank, .float .f64 tk.est, .slice A3 tk.tags.length c3] 37 (0, 0))) (by kernel_rfl) (LB.out) (fun S0 => ?_)
            refine wpAnyH_take (i := 0) (v := ?_) rfl (by kernel_rfl) (by kernel_rfl) (by kernel_rfl) (fun _ _ _ h => h) (Or.inl ⟨by rfl, ?_⟩) S0 ?_
            rotate_left
            · intro u hu
              go_simp
              try rfl
            try simp only [Act.put, List.setIfInBounds_toArray, List.set_cons_zero, List.set_cons_succ, List.getElem_toArray, List.getElem_cons_zero, List.getElem_cons_succ]
            refine wpAnyH_take (i := 1) (v := ?_) rfl (by kernel_rfl) (by kernel_rfl) (by kernel_rfl) (fun _ _ _ h => h) (Or.inl ⟨by rfl, ?_⟩) S0 ?_
            rotate_left
            · intro u hu
              go_simp
              try rfl
            try simp only [Act.put, List.setIfInBounds_toArray, List.set_cons_zero, List.set_cons_succ, List.getElem_toArray, List.getElem_cons_zero, List.getElem_cons_succ]
            refine wpAnyH_take (i := 2) (v := ?_) rfl (by kernel_rfl) (by kernel_rfl) (by kernel_rfl) (fun _ _ _ h => h) (Or.inl ⟨by rfl, ?_⟩) S0 ?_
            rotate_left
            · intro u hu
              obtain ⟨l0, l1, l2, l3, l4, l5, l6⟩ := seven_cells hu
              go_simp
              try rfl
            try simp only [Act.put, List.setIfInBounds_toArray, List.set_cons_zero, List.set_cons_succ, List.getElem_toArray, List.getElem_cons_zero, List.getElem_cons_succ]
            refine wpAnyH_take (i := 4) (v := ?_) rfl (by kernel_rfl) (by kernel_rfl) (by kernel_rfl) (fun _ _ _ h => h) (Or.inl ⟨by rfl, ?_⟩) S0 ?_
            rotate_left
            · intro u hu
              go_simp
              try rfl
            try simp only [Act.put, List.setIfInBounds_toArray, List.set_cons_zero, List.set_cons_succ, List.getElem_toArray, List.getElem_cons_zero, List.getElem_cons_succ]
            refine wpAnyH_take (i := 5) (v := ?_) rfl (by kernel_rfl) (by kernel_rfl) (by kernel_rfl) (fun _ _ _ h => h) (Or.inl ⟨by rfl, ?_⟩) S0 ?_
            rotate_left
            · intro u hu
              obtain ⟨l0, l1, l2, l3, l4, l5, l6⟩ := seven_cells hu
              go_simp
              try rfl
            try simp only [Act.put, List.setIfInBounds_toArray, List.set_cons_zero, List.set_cons_succ, List.getElem_toArray, List.getElem_cons_zero, List.getElem_cons_succ]
            refine wpAnyH_take (i := 7) (v := ?_) rfl (by kernel_rfl) (by kernel_rfl) (by kernel_rfl) (fun _ _ _ h => h) (Or.inl ⟨by rfl, ?_⟩) S0 ?_
            rotate_left
            · intro u hu
              go_simp
              try rfl
            try simp only [Act.put, List.setIfInBounds_toArray, List.set_cons_zero, List.set_cons_succ, List.getElem_toArray, List.getElem_cons_zero, List.getElem_cons_succ]
            refine wpAnyH_take (i := 8) (v := ?_) rfl (by kernel_rfl) (by kernel_rfl) (by kernel_rfl) (fun _ _ _ h => h) (Or.inl ⟨by rfl, ?_⟩) S0 ?_
            rotate_left
            · intro u hu
              obtain ⟨l0, l1, l2, l3, l4, l5, l6⟩ := seven_cells hu
              go_simp
              try rfl
            try simp only [Act.put, List.setIfInBounds_toArray, List.set_cons_zero, List.set_cons_succ, List.getElem_toArray, List.getElem_cons_zero, List.getElem_cons_succ]
            refine wpAnyH_ready (rs := [3, 9]) (by kernel_rfl) (by simp) (AllReadyH.cons rfl (fun K hK => ?_) (AllReadyH.cons rfl (fun K hK => ?_) AllReadyH.nil))
            · go_simp
              refine (rN_c (n := (tk.id : Int)) OQ.out (by have := HB.out; have := TQ.out.size; omega) (by omega) (by omega) (by have := NL.out; (try simp only [List.length_append, List.length_cons, List.length_nil, Cd.fix_len]); omega)).mono ?_
              rintro e v1 ⟨A1, n1, c1, rfl, O1, t1⟩
              rw [Int.toNat_natCast] at O1
              have S1 := t1.blk S0 (by decide)
              have T1 := TQ.out.trans t1
              refine hK.out _ _ S1 (fun _ => ?_)
              clear hK K S0
              have S0 := S1
              clear S1
              try simp only [Act.put, List.setIfInBounds_toArray, List.set_cons_zero, List.set_cons_succ, List.getElem_toArray, List.getElem_cons_zero, List.getElem_cons_succ]
              refine wpAnyH_ready (rs := [6, 9]) (by kernel_rfl) (by simp) (AllReadyH.cons rfl (fun K hK => ?_) (AllReadyH.cons rfl (fun K hK => ?_) AllReadyH.nil))
              · go_simp
                refine (rN_c (n := (tk.list : Int)) O1 (by have := HB.out; have := T1.size; omega) (by omega) (by omega) (by have := NL.out; (try simp only [List.length_append, List.length_cons, List.length_nil, Cd.fix_len]); omega)).mono ?_
                rintro e v2 ⟨A2, n2, c2, rfl, O2, t2⟩
                rw [Int.toNat_natCast] at O2
                have S1 := t2.blk S0 (by decide)
                have T2 := T1.trans t2
                refine hK.out _ _ S1 (fun _ => ?_)
                clear hK K S0
                have S0 := S1
                clear S1
                try simp only [Act.put, List.setIfInBounds_toArray, List.set_cons_zero, List.set_cons_succ, List.getElem_toArray, List.getElem_cons_zero, List.getElem_cons_succ]
                refine anyH_one9 (i := 9) (by kernel_rfl) rfl (fun K hK => ?_)
                obtain ⟨ck, v3, hcv, LS, zc, tc, ow⟩ := conv_new tk.title v2
                go_simp
                have S1 := (tc w.heap.size (by have := HB.out; have := T2.size; omega)).blk S0 (by decide)
                have T3 := T2.trans ((tc w.heap.size (by have := HB.out; have := T2.size; omega)).more (by simp))
                obtain ⟨O3, NE3⟩ := ow _ _ _ _ O2
                have zg3 : v2.heap.size < v3.heap.size := by omega
                refine hK _ _ S1 ?_
                clear hK K S0
                have S0 := S1
                clear S1
                try simp only [Act.put, List.setIfInBounds_toArray, List.set_cons_zero, List.set_cons_succ, List.getElem_toArray, List.getElem_cons_zero, List.getElem_cons_succ]
                refine anyH_one9 (i := 10) (by kernel_rfl) rfl (fun K hK => ?_)
                go_simp
                refine (rBG_c (g := v2.heap.size) O3 (by have := HB.out; have := T3.size; omega) zg3 NE3 LS rfl (by have := NL.out; (try simp only [List.length_append, List.length_cons, List.length_nil, Cd.fix_len]); omega)).mono ?_
                rintro e v4 ⟨A4, n4, c4, rfl, O4, t4⟩
                have S1 := t4.blk S0 (by decide)
                have T4 := T3.trans t4
                refine hK _ _ S1 ?_
                clear hK K S0
                have S0 := S1
                clear S1
                try simp only [Act.put, List.setIfInBounds_toArray, List.set_cons_zero, List.set_cons_succ, List.getElem_toArray, List.getElem_cons_zero, List.getElem_cons_succ]
                refine wpAnyH_take (i := 11) (v := ?_) rfl (by kernel_rfl) (by kernel_rfl) (by kernel_rfl) (fun _ _ _ h => h) (Or.inl ⟨by rfl, ?_⟩) S0 ?_
                rotate_left
                · intro u hu
                  go_simp
                  try rfl
                try simp only [Act.put, List.setIfInBounds_toArray, List.set_cons_zero, List.set_cons_succ, List.getElem_toArray, List.getElem_cons_zero, List.getElem_cons_succ]
                refine wpAnyH_done (by kernel_rfl) ?_ _
                go_wp2
                go_meet
                case rel => exact ⟨A4, _, _, rfl, O4, T4, S0⟩
              · obtain ⟨ck, v2, hcv, LS, zc, tc, ow⟩ := conv_new tk.title v1
                go_simp
                have S1 := (tc w.heap.size (by have := HB.out; have := T1.size; omega)).blk S0 (by decide)
                have T2 := T1.trans ((tc w.heap.size (by have := HB.out; have := T1.size; omega)).more (by simp))
                obtain ⟨O2, NE2⟩ := ow _ _ _ _ O1
                have zg2 : v1.heap.size < v2.heap.size := by omega
                refine hK.out _ _ S1 (fun _ => ?_)
                clear hK K S0
                have S0 := S1
                clear S1
                try simp only [Act.put, List.setIfInBounds_toArray, List.set_cons_zero, List.set_cons_succ, List.getElem_toArray, List.getElem_cons_zero, List.getElem_cons_succ]
                refine anyH_one9 (i := 6) (by kernel_rfl) rfl (fun K hK => ?_)
                go_simp
                refine (rNG_c (g := v1.heap.size) (n := (tk.list : Int)) O2 (by have := HB.out; have := T2.size; omega) zg2 NE2 (by omega) (by omega) (by have := NL.out; (try simp only [List.length_append, List.length_cons, List.length_nil, Cd.fix_len]); omega)).mono ?_
                rintro e v3 ⟨A3, n3, c3, rfl, O3, t3, hg3, NE3⟩
                rw [Int.toNat_natCast] at O3
                have S1 := t3.blk S0 (by decide)
                have T3 := T2.trans t3
                have LS := lies_same LS hg3
                have zg3 := Nat.lt_of_lt_of_le zg2 t3.size
                refine hK _ _ S1 ?_
                clear hK K S0
                have S0 := S1
                clear S1
                try simp only [Act.put, List.setIfInBounds_toArray, List.set_cons_zero, List.set_cons_succ, List.getElem_toArray, List.getElem_cons_zero, List.getElem_cons_succ]
                refine anyH_one9 (i := 10) (by kernel_rfl) rfl (fun K hK => ?_)
                go_simp
                refine (rBG_c (g := v1.heap.size) O3 (by have := HB.out; have := T3.size; omega) zg3 NE3 LS rfl (by have := NL.out; (try simp only [List.length_append, List.length_cons, List.length_nil, Cd.fix_len]); omega)).mono ?_
                rintro e v4 ⟨A4, n4, c4, rfl, O4, t4⟩
                have S1 := t4.blk S0 (by decide)
                have T4 := T3.trans t4
                refine hK _ _ S1 ?_
                clear hK K S0
                have S0 := S1
                clear S1
                try simp only [Act.put, List.setIfInBounds_toArray, List.set_cons_zero, List.set_cons_succ, List.getElem_toArray, List.getElem_cons_zero, List.getElem_cons_succ]
                refine wpAnyH_take (i := 11) (v := ?_) rfl (by kernel_rfl) (by kernel_rfl) (by kernel_rfl) (fun _ _ _ h => h) (Or.inl ⟨by rfl, ?_⟩) S0 ?_
                rotate_left
                · intro u hu
                  go_simp
                  try rfl
                try simp only [Act.put, List.setIfInBounds_toArray, List.set_cons_zero, List.set_cons_succ, List.getElem_toArray, List.getElem_cons_zero, List.getElem_cons_succ]
                refine wpAnyH_done (by kernel_rfl) ?_ _
                go_wp2
                go_meet
                case rel => exact ⟨A4, _, _, rfl, O4, T4, S0⟩
            · obtain ⟨ck, v1, hcv, LS, zc, tc, ow⟩ := conv_new tk.title wq.drew
              go_simp
              have S1 := (tc w.heap.size (by have := HB.out; have := TQ.out.size; omega)).blk S0 (by decide)
              have T1 := TQ.out.trans ((tc w.heap.size (by have := HB.out; have := TQ.out.size; omega)).more (by simp))
              obtain ⟨O1, NE1⟩ := ow _ _ _ _ OQ.out
              have zg1 : wq.drew.heap.size < v1.heap.size := by omega
              refine hK.out _ _ S1 (fun _ => ?_)
              clear hK K S0
              have S0 := S1
              clear S1
              try simp only [Act.put, List.setIfInBounds_toArray, List.set_cons_zero, List.set_cons_succ, List.getElem_toArray, List.getElem_cons_zero, List.getElem_cons_succ]
              refine anyH_one9 (i := 3) (by kernel_rfl) rfl (fun K hK => ?_)
              go_simp
              refine (rNG_c (g := wq.drew.heap.size) (n := (tk.id : Int)) O1 (by have := HB.out; have := T1.size; omega) zg1 NE1 (by omega) (by omega) (by have := NL.out; (try simp only [List.length_append, List.length_cons, List.length_nil, Cd.fix_len]); omega)).mono ?_
              rintro e v2 ⟨A2, n2, c2, rfl, O2, t2, hg2, NE2⟩
              rw [Int.toNat_natCast] at O2
              have S1 := t2.blk S0 (by decide)
              have T2 := T1.trans t2
              have LS := lies_same LS hg2
              have zg2 := Nat.lt_of_lt_of_le zg1 t2.size
              refine hK _ _ S1 ?_
              clear hK K S0
              have S0 := S1
              clear S1
              try simp only [Act.put, List.setIfInBounds_toArray, List.set_cons_zero, List.set_cons_succ, List.getElem_toArray, List.getElem_cons_zero, List.getElem_cons_succ]
              refine anyH_one9 (i := 6) (by kernel_rfl) rfl (fun K hK => ?_)
              go_simp
              refine (rNG_c (g := wq.drew.heap.size) (n := (tk.list : Int)) O2 (by have := HB.out; have := T2.size; omega) zg2 NE2 (by omega) (by omega) (by have := NL.out; (try simp only [List.length_append, List.length_cons, List.length_nil, Cd.fix_len]); omega)).mono ?_
              rintro e v3 ⟨A3, n3, c3, rfl, O3, t3, hg3, NE3⟩
              rw [Int.toNat_natCast] at O3
              have S1 := t3.blk S0 (by decide)
              have T3 := T2.trans t3
              have LS := lies_same LS hg3
              have zg3 := Nat.lt_of_lt_of_le zg2 t3.size
              refine hK _ _ S1 ?_
              clear hK K S0
              have S0 := S1
              clear S1
              try simp only [Act.put, List.setIfInBounds_toArray, List.set_cons_zero, List.set_cons_succ, List.getElem_toArray, List.getElem_cons_zero, List.getElem_cons_succ]
              refine anyH_one9 (i := 10) (by kernel_rfl) rfl (fun K hK => ?_)
              go_simp
              refine (rBG_c (g := wq.drew.heap.size) O3 (by have := HB.out; have := T3.size; omega) zg3 NE3 LS rfl (by have := NL.out; (try simp only [List.length_append, List.length_cons, List.length_nil, Cd.fix_len]); omega)).mono ?_
              rintro e v4 ⟨A4, n4, c4, rfl, O4, t4⟩
              have S1 := t4.blk S0 (by decide)
              have T4 := T3.trans t4
              refine hK _ _ S1 ?_
              clear hK K S0
              have S0 := S1
              clear S1
              try simp only [Act.put, List.setIfInBounds_toArray, List.set_cons_zero, List.set_cons_succ, List.getElem_toArray, List.getElem_cons_zero, List.getElem_cons_succ]
              refine wpAnyH_take (i := 11) (v := ?_) rfl (by kernel_rfl) (by kernel_rfl) (by kernel_rfl) (fun _ _ _ h => h) (Or.inl ⟨by rfl, ?_⟩) S0 ?_
              rotate_left
              · intro u hu
                go_simp
                try rfl
              try simp only [Act.put, List.setIfInBounds_toArray, List.set_cons_zero, List.set_cons_succ, List.getElem_toArray, List.getElem_cons_zero, List.getElem_cons_succ]
              refine wpAnyH_done (by kernel_rfl) ?_ _
              go_wp2
              go_meet
              case rel => exact ⟨A4, _, _, rfl, O4, T4, S0⟩
          case rest =>
            obtain ⟨A7, n7, c7, rfl, ho7, ht7, hb7⟩ := hcut
            obtain ⟨d1, qd1⟩ : ∃ a, a = ((d0 ++ Cd.num tk.id) ++ Cd.num tk.list) ++ (Cd.num tk.title.length ++ tk.title) := ⟨_, rfl⟩
            rw [← qd1] at ho7
            have nd1 : d1.length ≤ 91000 := by have := NL.out; rw [qd1]; simp only [List.length_append]; omega
            have Qd1 := Lib.hid qd1
            have O7 := Lib.hid ho7
            have T7 := Lib.hid ht7
            have LB7 := Lib.hid hb7
            clear qd1 ho7 ht7 hb7 OQ TQ LB NL
            obtain ⟨w7, hw7⟩ : ∃ u, u = wc := ⟨_, rfl⟩
            subst hw7
            obtain ⟨y0, y1, y2, y3, y4, y5, y6⟩ := seven_cells LB7.out
            have OD7 : Hid (w7.drew.ownsRow w.heap.size 5 1 (.slice A7 n7 c7) d1.length (bcells d1)) := Lib.hid O7.out
            have TD7 := Lib.hid T7.out.drew
            have NL : Hid (d1.length ≤ 91000) := Lib.hid nd1
            clear y0 y1 y2 y3 y4 y5 y6 nd1
            go_upto_region 12 with fail
            go_cut [3] (fun s3 wd => ∃ (A n c : _), s3 = .slice A n c ∧ wd.ownsRow w.heap.size 5 1 (.slice A n c) (((d1 ++ [if tk.done = true then 1 else 0]) ++ Cd.fix (Fl.key tk.rank).toNat 8) ++ Cd.fix (Fl.key tk.est).toNat 8).length (bcells (((d1 ++ [if tk.done = true then 1 else 0]) ++ Cd.fix (Fl.key tk.rank).toNat 8) ++ Cd.fix (Fl.key tk.est).toNat 8)) ∧ Tch w.heap.size [5] w1 wd ∧ wd.heap[wo.heap.size]? = some (.cells #[.int .u64 (tk.id : Int), .int .u64 (tk.list : Int), .string (str tk.title), .bool tk.done, .float .f64 tk.rank, .float .f64 tk.est, .slice A3 tk.tags.length c3] 37 (0, 0)))
            case first => as_aux_lemma =>
              refine wp_region_held_drew (S := fun u => u.heap[wo.heap.size]? = some (.cells #[.int .u64 (tk.id : Int), .int .u64 (tk.list : Int), .string (str tk.title), .bool tk.done, .float .f64 tk.rank, .float .f64 tk.est, .slice A3 tk.tags.length c3] 37 (0, 0))) (by kernel_rfl) (LB7.out) (fun S0 => ?_)
              refine wpAnyH_take (i := 0) (v := ?_) rfl (by kernel_rfl) (by kernel_rfl) (by kernel_rfl) (fun _ _ _ h => h) (Or.inl ⟨by rfl, ?_⟩) S0 ?_
              rotate_left
              · intro u hu
                go_simp
                try rfl
              try simp only [Act.put, List.setIfInBounds_toArray, List.set_cons_zero, List.set_cons_succ, List.getElem_toArray, List.getElem_cons_zero, List.getElem_cons_succ]
              refine wpAnyH_take (i := 1) (v := ?_) rfl (by kernel_rfl) (by kernel_rfl) (by kernel_rfl) (fun _ _ _ h => h) (Or.inl ⟨by rfl, ?_⟩) S0 ?_
              rotate_left
              · intro u hu
                go_simp
                try rfl
              try simp only [Act.put, List.setIfInBounds_toArray, List.set_cons_zero, List.set_cons_succ, List.getElem_toArray, List.getElem_cons_zero, List.getElem_cons_succ]
              refine wpAnyH_take (i := 2) (v := ?_) rfl (by kernel_rfl) (by kernel_rfl) (by kernel_rfl) (fun _ _ _ h => h) (Or.inl ⟨by rfl, ?_⟩) S0 ?_
              rotate_left
              · intro u hu
                obtain ⟨l0, l1, l2, l3, l4, l5, l6⟩ := seven_cells hu
                go_simp
                try rfl
              try simp only [Act.put, List.setIfInBounds_toArray, List.set_cons_zero, List.set_cons_succ, List.getElem_toArray, List.getElem_cons_zero, List.getElem_cons_succ]
              refine wpAnyH_take (i := 4) (v := ?_) rfl (by kernel_rfl) (by kernel_rfl) (by kernel_rfl) (fun _ _ _ h => h) (Or.inl ⟨by rfl, ?_⟩) S0 ?_
              rotate_left
              · intro u hu
                go_simp
                try rfl
              try simp only [Act.put, List.setIfInBounds_toArray, List.set_cons_zero, List.set_cons_succ, List.getElem_toArray, List.getElem_cons_zero, List.getElem_cons_succ]
              refine wpAnyH_take (i := 5) (v := ?_) rfl (by kernel_rfl) (by kernel_rfl) (by kernel_rfl) (fun _ _ _ h => h) (Or.inl ⟨by rfl, ?_⟩) S0 ?_
              rotate_left
              · intro u hu
                obtain ⟨l0, l1, l2, l3, l4, l5, l6⟩ := seven_cells hu
                go_simp
                try rfl
              try simp only [Act.put, List.setIfInBounds_toArray, List.set_cons_zero, List.set_cons_succ, List.getElem_toArray, List.getElem_cons_zero, List.getElem_cons_succ]
              refine wpAnyH_take (i := 7) (v := ?_) rfl (by kernel_rfl) (by kernel_rfl) (by kernel_rfl) (fun _ _ _ h => h) (Or.inl ⟨by rfl, ?_⟩) S0 ?_
              rotate_left
              · intro u hu
                go_simp
                try rfl
              try simp only [Act.put, List.setIfInBounds_toArray, List.set_cons_zero, List.set_cons_succ, List.getElem_toArray, List.getElem_cons_zero, List.getElem_cons_succ]
              refine wpAnyH_take (i := 8) (v := ?_) rfl (by kernel_rfl) (by kernel_rfl) (by kernel_rfl) (fun _ _ _ h => h) (Or.inl ⟨by rfl, ?_⟩) S0 ?_
              rotate_left
              · intro u hu
                obtain ⟨l0, l1, l2, l3, l4, l5, l6⟩ := seven_cells hu
                go_simp
                try rfl
              try simp only [Act.put, List.setIfInBounds_toArray, List.set_cons_zero, List.set_cons_succ, List.getElem_toArray, List.getElem_cons_zero, List.getElem_cons_succ]
              refine anyH_one9 (i := 3) (by kernel_rfl) rfl (fun K hK => ?_)
              go_simp
              refine (rG_c (g := tk.done) OD7.out (by have := HB.out; have := TD7.out.size; omega) (by have := NL.out; (try simp only [List.length_append, List.length_cons, List.length_nil, Cd.fix_len]); omega)).mono ?_
              rintro e v1 ⟨A1, n1, c1, rfl, O1, t1⟩
              have S1 := t1.blk S0 (by decide)
              have T1 := TD7.out.trans t1
              refine hK _ _ S1 ?_
              clear hK K S0
              have S0 := S1
              clear S1
              try simp only [Act.put, List.setIfInBounds_toArray, List.set_cons_zero, List.set_cons_succ, List.getElem_toArray, List.getElem_cons_zero, List.getElem_cons_succ]
              refine anyH_one9 (i := 6) (by kernel_rfl) rfl (fun K hK => ?_)
              go_simp
              refine (rF_c (f := tk.rank) O1 (by have := HB.out; have := T1.size; omega) o3 (by have := NL.out; (try simp only [List.length_append, List.length_cons, List.length_nil, Cd.fix_len]); omega)).mono ?_
              rintro e v2 ⟨A2, n2, c2, rfl, O2, t2⟩
              have S1 := t2.blk S0 (by decide)
              have T2 := T1.trans t2
              refine hK _ _ S1 ?_
              clear hK K S0
              have S0 := S1
              clear S1
              try simp only [Act.put, List.setIfInBounds_toArray, List.set_cons_zero, List.set_cons_succ, List.getElem_toArray, List.getElem_cons_zero, List.getElem_cons_succ]
              refine anyH_one9 (i := 9) (by kernel_rfl) rfl (fun K hK => ?_)
              go_simp
              refine (rF_c (f := tk.est) O2 (by have := HB.out; have := T2.size; omega) o4 (by have := NL.out; (try simp only [List.length_append, List.length_cons, List.length_nil, Cd.fix_len]); omega)).mono ?_
              rintro e v3 ⟨A3, n3, c3, rfl, O3, t3⟩
              have S1 := t3.blk S0 (by decide)
              have T3 := T2.trans t3
              refine hK _ _ S1 ?_
              clear hK K S0
              have S0 := S1
              clear S1
              try simp only [Act.put, List.setIfInBounds_toArray, List.set_cons_zero, List.set_cons_succ, List.getElem_toArray, List.getElem_cons_zero, List.getElem_cons_succ]
              refine wpAnyH_take (i := 10) (v := ?_) rfl (by kernel_rfl) (by kernel_rfl) (by kernel_rfl) (fun _ _ _ h => h) (Or.inl ⟨by rfl, ?_⟩) S0 ?_
              rotate_left
              · intro u hu
                go_simp
                try rfl
              try simp only [Act.put, List.setIfInBounds_toArray, List.set_cons_zero, List.set_cons_succ, List.getElem_toArray, List.getElem_cons_zero, List.getElem_cons_succ]
              refine wpAnyH_done (by kernel_rfl) ?_ _
              go_wp2
              go_meet
              case rel => exact ⟨A3, _, _, rfl, O3, T3, S0⟩
            case rest =>
              obtain ⟨A8, n8, c8, rfl, ho8, ht8, hb8⟩ := hcut
              obtain ⟨d2, qd2⟩ : ∃ a, a = ((d1 ++ [if tk.done = true then 1 else 0]) ++ Cd.fix (Fl.key tk.rank).toNat 8) ++ Cd.fix (Fl.key tk.est).toNat 8 := ⟨_, rfl⟩
              rw [← qd2] at ho8
              have nd2 : d2.length ≤ 91100 := by have := NL.out; rw [qd2]; simp only [List.length_append, List.length_cons, List.length_nil, Cd.fix_len]; omega
              have Qd2 := Lib.hid qd2
              have O8 := Lib.hid ho8
              have T8 := Lib.hid ht8
              obtain ⟨w8, hw8⟩ : ∃ u, u = wc := ⟨_, rfl⟩
              subst hw8
              have LB8 := Lib.hid hb8
              obtain ⟨y0, y1, y2, y3, y4, y5, y6⟩ := seven_cells hb8
              clear qd2 ho8 ht8 hb8 OD7 TD7 NL LB7 O7 T7
              go_wp2_with fail
              refine (rN_c (n := (tk.tags.length : Int)) O8.out (by have := HB.out; have := T8.out.size; omega) (by omega) (by omega) (by omega)).mono ?_
              rintro e w9 ⟨A9, n9, c9, rfl, ho9, t9⟩
              rw [Int.toNat_natCast] at ho9
              obtain ⟨d6, qd6⟩ : ∃ a, a = d2 ++ Cd.num tk.tags.length := ⟨_, rfl⟩
              rw [← qd6] at ho9
              have nd6 : d6.length ≤ 91200 := by
                rw [qd6, List.length_append]
                have := num_len tk.tags.length
                omega
              have Qd6 := Lib.hid qd6
              have O9 := Lib.hid ho9
              have T9' := Lib.hid (T8.out.trans t9)
              have lb9 := t9.blk LB8.out (by decide)
              clear ho9 t9 qd6 y0 y1 y2 y3 y4 y5 y6
              obtain ⟨y0, y1, y2, y3, y4, y5, y6⟩ := seven_cells lb9
              have FT : Hid (∀ j, ((tk.tags.take j).flatMap St.wb).length ≤ 109 * 8) := Lib.hid fun j => by
                have q := T9.flat_le (f := St.wb) (c := 109) (l := tk.tags.take j) fun x hx => T9.wb_le (l3.out x (List.mem_of_mem_take hx))
                rw [List.length_take] at q
                omega
              go_wp2_with fail
              go_loopw [3, 74] (fun s3 s74 wr => ∃ (j : Nat) (A n c : _), s3 = .slice A n c ∧ s74 = .int .i64 j ∧ j ≤ tk.tags.length ∧ Aside (wr.ownsRow w.heap.size 5 1 (.slice A n c) (d6 ++ (tk.tags.take j).flatMap St.wb).length (bcells (d6 ++ (tk.tags.take j).flatMap St.wb))) ∧ Aside (Tch w.heap.size [5] w1 wr)) (fun _ s74 _ => tk.tags.length - (intOf s74).toNat)
              case atStart => exact ⟨0, _, _, _, rfl, rfl, Nat.zero_le _, (by rw [List.take_zero, List.flatMap_nil, List.append_nil]; exact O9.out : w9.ownsRow w.heap.size 5 1 (.slice A9 n9 c9) (d6 ++ (tk.tags.take 0).flatMap St.wb).length (bcells (d6 ++ (tk.tags.take 0).flatMap St.wb))), T9'.out⟩
              case round =>
                obtain ⟨j, A10, n10, c10, rfl, rfl, hj, hW, hT⟩ := hrel
                have Twr := Lib.hid hT.out
                have WW3 := Lib.hid hW.out
                clear hT hW
                by_cases hlt3 : j < tk.tags.length
                · have hltz3 : (j : Int) < (tk.tags.length : Int) := by omega
                  obtain ⟨ad3, x, hA, hx, hc⟩ := (FI.out.gl.stay (B1.out.trans Twr.out.below)).at_ (k := j) hlt3
                  have hA : A3 = some ad3 := hA
                  subst hA
                  have hx : tk.tags[j]? = some x := hx
                  have XX := Lib.hid hx
                  have lx := Lib.hid (l3.out x (List.mem_of_getElem? hx))
                  have ft := FT.out j
                  obtain ⟨e0, qe0⟩ : ∃ a, a = d6 ++ (tk.tags.take j).flatMap St.wb := ⟨_, rfl⟩
                  have Qe0 := Lib.hid qe0
                  have ne0 : e0.length ≤ 93000 := by rw [qe0, List.length_append]; omega
                  have We0 : Hid (wr.ownsRow w.heap.size 5 1 (.slice A10 n10 c10) e0.length (bcells e0)) := Lib.hid (by rw [qe0]; exact WW3.out)
                  obtain ⟨ck, v1, hcv, LS, zc, tc, ow⟩ := conv_new x wr
                  have szr : w.heap.size ≤ wr.heap.size := by have := HB.out; have := Twr.out.size; omega
                  have TV := Lib.hid (Twr.out.trans ((tc w.heap.size szr).more (by simp)))
                  obtain ⟨ov, nev⟩ := ow _ _ _ _ We0.out
                  have OV := Lib.hid ov
                  have NEV := Lib.hid nev
                  have LSV := Lib.hid LS
                  have zv : wr.heap.size < v1.heap.size := by omega
                  have lk : x.length ≤ 100 := lx.out
                  clear hx qe0 ft LS ov nev zc tc ow
                  go_wp2_with fail
                  refine (rBG_c (g := wr.heap.size) OV.out (by omega) zv NEV.out LSV.out rfl (by omega)).mono ?_
                  rintro e w12 ⟨A11, n11, c11, rfl, ho11, t11⟩
                  have O11 := Lib.hid ho11
                  have T11 := Lib.hid (TV.out.trans t11)
                  clear ho11 t11 hcv zv szr
                  go_wp2
                  go_roundw
                  case rel =>
                    refine ⟨j + 1, A11, n11, c11, rfl, by go_num, by omega, ?_, T11.out⟩
                    have e : e0 ++ (Cd.num x.length ++ x) = d6 ++ (tk.tags.take (j + 1)).flatMap St.wb := by
                      rw [Qe0.out, take_nxt XX.out, List.flatMap_append]
                      simp [St.wb]
                    rw [← e]
                    exact O11.out
                  case measure => simp [intOf]; omega
                · obtain rfl : j = tk.tags.length := by omega
                  have hltz3 : ¬ ((tk.tags.length : Int) < (tk.tags.length : Int)) := by omega
                  go_wp2
                  go_roundw
                  case rel =>
                    refine ⟨i + 1, A10, n10, c10, rfl, by go_num, by omega, ?_, Twr.out⟩
                    have e : d6 ++ (tk.tags.take tk.tags.length).flatMap St.wb = c1 ++ (tks (ms.take (i + 1))).flatMap T9.encTk := by
                      rw [Qd6.out, Qd2.out, Qd1.out, Qd0.out, take_nxt X.out, tks_snoc, List.flatMap_append, List.take_length]
                      simp [T9.encTk, St.wb, St.fl]
                    rw [← e]
                    exact WW3.out
                  case measure => simp [intOf]; omega
        · obtain rfl : i = n2 := by omega
          have hltz2 : ¬ ((i : Int) < (i : Int)) := by omega
          have EN : Hid (c1 ++ (tks (ms.take i)).flatMap T9.encTk = T9.bts ⟨ls, tks ms⟩) := Lib.hid (by
            rw [Qc1.out, Qc0.out, Qa1.out]
            have q1 := E1.out
            have q2 := E2.out
            unfold T9.bts
            dsimp only
            rw [← q1, tks_len, ← q2]
            rw [q1, List.take_length, q2, List.take_length]
            simp)
          go_wp2
          go_ret
          have WE := WW.out
          rw [EN.out] at WE
          exact ⟨A6, n6, c6, rfl, WE, B1.out.trans Two.out.below⟩
end Go.Proofs.Ytbgdmmemahfpbaa
