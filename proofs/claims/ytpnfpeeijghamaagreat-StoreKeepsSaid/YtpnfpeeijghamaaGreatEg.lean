/- Stage 8: store.told: the keys in their order, with values of the caller's own. Stage 8: store.short, store.told, store.shortOfAll. -/
import Derived.Test.YtpnfpeeijghamaaGreatEe
import Derived.Test.YtpnfpeeijghamaaGreatRe
import Derived.Test.YtpnfpeeijghamaaGreatVb
namespace Go.Proofs.YtpnfpeeijghamaaGreat
set_option maxRecDepth 100000

section
open Go.RowKit Go.Shelf Go.Maps

attribute [local go_sem] Oper.semAt_some

/-- What is handed on at a round. -/
structure TV where
  k : List UInt8
  v : List UInt8
  A : Option Addr
  c : Nat
def TV.enc (x : TV) : Array Value := #[.string (str x.k), .slice x.A x.v.length x.c]
def TV.pre (x : TV) (W : World) : Prop := Lies W 0 5 x.A (bcells x.v) ∧ x.v.length ≤ x.c
def TV.kv (x : TV) : St.KV := (x.k, x.v)
def TV.all (L : List St.KV) (xs : List TV) (W : World) : Prop := xs.map TV.kv = L ∧ ∀ x ∈ xs, x.pre W
theorem TV.pre.tch {x : TV} {w w' : World} (h : x.pre w) {B : Nat} {ts : List TypeId} (hT : Tch B ts w w') (ht : 5 ∉ ts) : x.pre w' := ⟨h.1.tch (hT.mono (Nat.zero_le _)) ht, h.2⟩
theorem TV.pre.below {x : TV} {w w' : World} (h : x.pre w) (hb : Below w.heap.size w w') : x.pre w' := ⟨h.1.below (Nat.zero_le _) hb, h.2⟩
theorem one_cell {w : World} {g : Nat} {a : Value} {t : TypeId} {fr : Nat × Nat} (h : w.heap[g]? = some (.cells #[a] t fr)) : w.cell? ⟨g, 0, none⟩ = some a := by simp [World.cell?, h]

set_option maxRecDepth 100000 in
set_option maxHeartbeats 2000000 in
theorem told1_m {m Bm Bp mb n B : Nat} {ts : List TypeId} {V : Nat → Prop} {D : DataW Value} {L : List St.KV} {w : World} {f1 f2 : Nat × Nat} (hm : w.heap[Bm]? = some (.cells #[.map (some mb)] 87 f1)) (hp : w.heap[Bp]? = some (.cells #[.string { data := #[] }] 9 f2))
    (hK : KM w V mb n D L) (hmb : mb < B) (_hB : B ≤ w.heap.size) (t1 : 87 ∉ ts) (t2 : 9 ∉ ts) (t3 : 5 ∉ ts) (hL : L.length ≤ 100000) (hv : ∀ x ∈ L, x.2.length ≤ 1099511627776) :
    SeqM Fence.wide m Tryz.prog 78 #[.pointer (some ⟨Bm, 0, none⟩), .pointer (some ⟨Bp, 0, none⟩)] TV.enc (fun x W => x.pre W ∧ x.kv ∈ L) B ts (TV.all L) L.length w := by
  intro l J Jx W hW hJ hY h0
  have hKW := hK.below hW
  have m0 := (hW.block Bm (lt_of_block hm)).trans hm
  have p0 := (hW.block Bp (lt_of_block hp)).trans hp
  have c1 := one_cell m0
  have sW := hW.size
  have HKW := Lib.hid hKW
  have HM0 := Lib.hid m0
  have HP0 := Lib.hid p0
  have HV := Lib.hid hv
  have HJ := Lib.hid hJ
  have HY := Lib.hid hY
  clear hKW m0 p0 hm hp hK hW hv hJ hY
  refine callsIn_of_wp Tryz.func78 rfl trivial ?_ rfl
  simp only [Tryz.ntmps78, List.size_toArray, List.length_cons, List.length_nil, Nat.reduceAdd, Nat.reduceSub, Array.replicate_succ, Array.replicate_zero, List.push_toArray, List.append_toArray, List.nil_append, List.cons_append]
  gi_wp2_with (first
    | (refine ⟨trivial, (fun h => by cases h), ?_⟩; gi_at_call 80; refine (callsIn_wide.2 (mkeys_c _ _)).mono ?_; rintro e w' ⟨rfl, rfl⟩)
    | (refine ⟨trivial, (fun h => by cases h), ?_⟩; gi_at_call 79; refine (callsIn_wide.2 (sortedk_c HKW.out hL)).mono ?_; rintro e w2 ⟨A, c, rfl, hA, hb2⟩))
  have HA := Lib.hid hA
  have HB2 := Lib.hid hb2
  have H0 := Lib.hid (HJ.out [] W w2 h0 hb2)
  have K2 := Lib.hid (HKW.out.below hb2)
  have M2 := Lib.hid ((hb2.block Bm (lt_of_block HM0.out)).trans HM0.out)
  have P2 := Lib.hid ((hb2.block Bp (lt_of_block HP0.out)).trans HP0.out)
  have s2 := hb2.size
  clear hA hb2 h0 c1
  gi_loopw [10] (fun i wr => ∃ (k : Nat) (xs : List TV), k ≤ L.length ∧ i = .int .i64 (k : Int) ∧ xs.map TV.kv = L.take k ∧ (∀ x ∈ xs, x.pre wr) ∧ J xs wr ∧ Lies wr 0 9 A ((L.map (·.1)).map encStr) ∧ KM wr V mb n D L ∧
      wr.heap[Bm]? = some (.cells #[.map (some mb)] 87 f1) ∧ wr.heap[Bp]? = some (.cells #[.string { data := #[] }] 9 f2) ∧ w2.heap.size ≤ wr.heap.size)
    (fun i _ => L.length - (intOf i).toNat)
  case atStart => exact ⟨0, [], Nat.zero_le _, rfl, rfl, by simp, H0.out, HA.out, K2.out, M2.out, P2.out, Nat.le_refl _⟩
  case round =>
    obtain ⟨k, xs, hk, rfl, hxs, hall, hJs, hA, hKr, hMr, hPr, hsr⟩ := hrel
    by_cases hlt : k < L.length
    · have ex : L[k]? = some L[k] := List.getElem?_eq_getElem hlt
      obtain ⟨x, hx⟩ : ∃ x, L[k] = x := ⟨_, rfl⟩
      rw [hx] at ex
      have hmem : x ∈ L := List.mem_of_getElem? ex
      obtain ⟨ad, eA, ck⟩ := hA.at_ (k := k) (by simpa using hlt)
      have ck2 : wr.cell? (ad.add k) = some (.string (str x.1)) := by
        rw [ck]
        simp [hx, encStr, str]
      subst eA
      obtain ⟨A1, k1, v1, v2, v3, _, _⟩ := hKr.val x hmem
      have hlk := hKr.look (hKr.len x hmem) v1
      have cb := one_cell hMr
      have cp := one_cell hPr
      have HX := Lib.hid ex
      have lv := HV.out x hmem
      have HMEM := Lib.hid hmem
      have HALL := Lib.hid hall
      have HJS := Lib.hid hJs
      have HAr := Lib.hid hA
      have HKR := Lib.hid hKr
      have HMR := Lib.hid hMr
      have HPR := Lib.hid hPr
      have HXS := Lib.hid hxs
      have LXS : Hid (xs.length < L.length) := Lib.hid (by have := congrArg List.length hxs; rw [List.length_map, List.length_take] at this; omega)
      have HV3 := Lib.hid v3
      clear hx ck v1 v2 v3 hmem hall hJs hA hKr hMr hPr hxs
      gi_wp2_with (first
        | (refine ⟨trivial, (fun h => by cases h), ?_⟩; gi_at_call 81; refine (callsIn_wide.2 (hasPre2_c _ _)).mono ?_; rintro e w' ⟨rfl, rfl⟩)
        | (refine ⟨trivial, (fun h => by cases h), ?_⟩; gi_at_call 55; refine (callsIn_wide.2 (clone_c HV3.out (Nat.zero_le _) rfl lv)).mono ?_; rintro e w5 ⟨A5, n5, c5, rfl, ho5, hb5⟩; obtain ⟨rfl, hc5⟩ := own_room ho5; have X5 : Hid ((⟨x.1, x.2, A5, c5⟩ : TV).pre w5) := ⟨lies_own ho5, hc5⟩; obtain ⟨fn, tmps, assign, body, hy, hR⟩ := HY.out xs ⟨x.1, x.2, A5, c5⟩ w5 (HJ.out xs wr w5 HJS.out hb5) LXS.out ⟨X5.out, HMEM.out⟩; dsimp only [TV.enc] at hy; have sb5 := hb5.size; have HB5 := Lib.hid hb5; clear hb5 ho5 hc5))
      refine ⟨(fun h => by cases h), ?_⟩
      refine hR.mono ?_
      rintro e0 w6 (⟨rfl, hJ6, hT6⟩ | ⟨rfl, hJx6⟩)
      · have HJ6 := Lib.hid hJ6
        have HT6 := Lib.hid hT6
        have s6 := hT6.size
        clear hJ6 hT6 hR hy
        gi_wp2
        go_roundw
        case rel =>
          refine ⟨k + 1, xs ++ [⟨x.1, x.2, A5, c5⟩], by omega, by go_num, ?_, ?_, HJ6.out, ?_, ?_, ?_, ?_, by omega⟩
          · rw [List.map_append, HXS.out, take_next HX.out]
            rfl
          · intro q hq
            rw [List.mem_append, List.mem_singleton] at hq
            rcases hq with hq | rfl
            · exact ((HALL.out q hq).below HB5.out).tch HT6.out t3
            · exact X5.out.tch HT6.out t3
          · exact (HAr.out.below (Nat.zero_le _) HB5.out).tch (HT6.out.mono (Nat.zero_le _)) t2
          · exact (HKR.out.below HB5.out).tch HT6.out hmb t3
          · exact HT6.out.blk ((HB5.out.block Bm (lt_of_block HMR.out)).trans HMR.out) t1
          · exact HT6.out.blk ((HB5.out.block Bp (lt_of_block HPR.out)).trans HPR.out) t2
        case measure => simp [intOf]; omega
      · have HJ6 := Lib.hid hJx6
        clear hJx6 hR hy
        gi_wp2
        refine bodyPost_ret (results_none rfl _ _ _) rfl ?_
        exact ⟨⟨_, rfl⟩, .inr ⟨_, HJ6.out⟩⟩
    · obtain rfl : k = L.length := by omega
      rw [List.take_length] at hxs
      have HXS := Lib.hid hxs
      have HALL := Lib.hid hall
      have HJS := Lib.hid hJs
      clear hxs hall hJs hA hKr hMr hPr
      gi_wp2
      go_end0
      exact ⟨⟨_, rfl⟩, .inl ⟨xs, ⟨HXS.out, HALL.out⟩, HJS.out⟩⟩
end

section
open Go.RowKit Go.Shelf Go.Maps

attribute [local go_sem] Oper.semAt_some

set_option maxHeartbeats 1000000 in
/-- A record that isn't too long. -/
theorem short_c {A : Option Addr} {c n : Nat} {ms : List MPu} {all : Bool} {w : World} {B : Nat} {tp tb : TypeId} (h : UL w B tp tb A ms) (hn : n = ms.length) (hm : ms.length ≤ 4096) (hl : ∀ m ∈ ms, m.p.k.length < 128 ∧ m.p.v.length ≤ 60000) (hb : (St.bts all (pus ms)).length ≤ 60000) :
    Calls Tryz.prog 45 #[.bool all, .slice A n c] w (BErrOk w.heap.size 0 (St.bts all (pus ms)) w) := by
  have R := Lib.hid (record_c (all := all) (c := c) h hn (by omega) hl)
  have ND : Hid (Wl.need (St.bts all (pus ms)) ≠ 0) := Lib.hid (by unfold Wl.need; rw [if_neg (by omega)]; omega)
  have HB := Lib.hid hb
  have hn' : (n : Int) ≤ 4096 := by omega
  clear h hn hb hl
  go_enter Tryz.func45, Tryz.ntmps45
  go_wp2_with fail
  refine R.out.mono ?_
  rintro e w1 ⟨A1, n1, c1, rfl, ho1, hb1⟩
  obtain ⟨rfl, hc1⟩ := own_room ho1
  have HO := Lib.hid ho1
  have HB1 := Lib.hid hb1
  have nd : ((Wl.need (St.bts all (pus ms)) : Nat) : Int) ≠ 0 := by have := ND.out; omega
  clear ho1 hb1
  go_wp2_with fail
  refine (vNeed_c rfl (by have := HB.out; omega)).mono ?_
  rintro e w2 ⟨rfl, rfl⟩
  go_wp2
  go_ret2
  exact ⟨A1, _, c1, rfl, rfl, hc1, HO.out, HB1.out⟩

theorem told_c (mb : Option Nat) (s : ByteArray) (w : World) : Calls Tryz.prog 54 #[.map mb, .string s] w fun e w' => e = .returned (.func (.func 78) #[] #[.pointer (some ⟨w.heap.size, 0, none⟩), .pointer (some ⟨w.heap.size + 1, 0, none⟩)]) ∧
    w' = (w.alloc (.cells #[.map mb] 87)).alloc (.cells #[.string s] 9) := by
  go_enter Tryz.func54, Tryz.ntmps54
  go_wp2
  go_ret
  exact ⟨rfl, rfl⟩
theorem Tryz.infoPut : (Tryz.prog.info? 33).map (fun i => (i.zero, i.size, i.bytes)) = some (some (.agg #[.string { data := #[] }, .slice none 0 0, .bool false]), 3, 48) := by kernel_rfl

/-- The puts that are collected. -/
def TV.put (x : TV) : MPu := ⟨⟨x.k, x.v, false⟩, x.A, x.c⟩
theorem new_put (W : World) (m : MPu) : ∀ j u, m.cells[j]? = some u → (W.alloc (.cells #[.string (str m.p.k), .slice m.A m.p.v.length m.c, .bool m.p.g] 33)).cell? ((⟨W.heap.size, 0, none⟩ : Addr).add j) = some u := by
  intro j u hu
  obtain ⟨ad, e, _, h⟩ := (Lies.of_blk (B := 0) (heap_alloc_new W (.cells #[.string (str m.p.k), .slice m.A m.p.v.length m.c, .bool m.p.g] 33))) (by simp)
  injection e with e
  subst e
  exact h j u hu
theorem keep_nc {W W1 : World} {o : Obj} {base : Nat} {e : TypeId} {size n : Nat} {v : Value} {xs : List Value} {k : Nat} (hnc : ∀ cs t fr, W.heap[k]? ≠ some (.cells cs t fr)) (hk : k < W.heap.size) (hrow : W.ownsRow base e size v n xs) (hg : (W.alloc o).grownBy W1 v.ownBlock) : W1.heap[k]? = W.heap[k]? := by
  refine (hg.block k (by simp; omega) (fun q => ?_)).trans (Below.heap_alloc W o k hk)
  obtain ⟨_, cs, fr, r⟩ := own_row hrow k q.symm
  exact hnc _ _ _ r
theorem shut_below {w : World} {D B : Nat} {o : Obj} (_ : w.heap[D]? = some o) (hB : B ≤ D) : Below B w (shut w [D]) := ⟨rfl, rfl, rfl, by simp [shut], fun k hk => World.putObj_heap_other (by omega)⟩
theorem own_shut {w : World} {base : Nat} {e : TypeId} {size n : Nat} {v : Value} {xs : List Value} {D : Nat} {ds : Option (List Deferred)} (h : w.ownsRow base e size v n xs) (hD : w.heap[D]? = some (.deferred ds)) : (shut w [D]).ownsRow base e size v n xs :=
  own_tch h (B := 0) (ts := []) ⟨shut_below hD (Nat.zero_le _), fun k cs t fr hk _ => World.putObj_heap_other (fun q => by subst q; rw [hD] at hk; cases hk)⟩ (by simp)
/-- Between two rounds: the list in the box. -/
def Coll (w : World) (pre : List TV) (W : World) : Prop :=
  (∃ A c, W.heap[w.heap.size]? = some (.cells #[.slice A pre.length c] 22 (0, 0)) ∧ W.ownsRow w.heap.size 33 3 (.slice A pre.length c) pre.length (pcells (pre.map TV.put))) ∧ Below w.heap.size w W
theorem Coll.tch {w : World} {pre : List TV} {W W' : World} {B : Nat} (h : Coll w pre W) (hB : w.heap.size ≤ B) (hT : Tch B [] W W') : Coll w pre W' := by
  obtain ⟨⟨A, c, h1, h2⟩, h3⟩ := h
  exact ⟨⟨A, c, hT.blk h1 (by simp), own_tch h2 hT (by simp)⟩, h3.trans (hT.below.mono hB)⟩

set_option maxRecDepth 100000 in
set_option maxHeartbeats 2000000 in
theorem all_c {V : Nat → Prop} {mb n : Nat} {D : DataW Value} {L : List St.KV} {w : World} (hK : KM w V mb n D L) (hL : L.length ≤ 4096) (hl : ∀ x ∈ L, x.1.length < 128 ∧ x.2.length ≤ 60000) (hb : (St.bts true (St.puts L)).length ≤ 60000) :
    Calls Tryz.prog 47 #[.map (some mb)] w (BErrOk w.heap.size 0 (St.bts true (St.puts L)) w) := by
  have hlt := hK.own.lt
  obtain ⟨w2, hw2⟩ : ∃ w2, ((w.alloc (.cells #[.slice none 0 0] 22)).alloc (.cells #[.map (some mb)] 87)).alloc (.cells #[.string { data := #[] }] 9) = w2 := ⟨_, rfl⟩
  have b2 : Below w.heap.size w w2 := by rw [← hw2]; exact (((Below.refl _ w).alloc (Nat.le_refl _) _).alloc (by simp) _).alloc (by simp; omega) _
  have s2 : w2.heap.size = w.heap.size + 3 := by rw [← hw2]; simp
  have k0 : w2.heap[w.heap.size]? = some (.cells #[.slice none 0 0] 22 (0, 0)) := by rw [← hw2]; exact blk_alloc (blk_alloc (heap_alloc_new w _) _) _
  have k1 : w2.heap[w.heap.size + 1]? = some (.cells #[.map (some mb)] 87 (0, 0)) := by rw [← hw2]; exact blk_alloc (by have := heap_alloc_new (w.alloc (.cells #[.slice none 0 0] 22)) (.cells #[.map (some mb)] 87); rwa [World.size_alloc] at this) _
  have k2 : w2.heap[w.heap.size + 1 + 1]? = some (.cells #[.string { data := #[] }] 9 (0, 0)) := by
    rw [← hw2]
    have := heap_alloc_new ((w.alloc (.cells #[.slice none 0 0] 22)).alloc (.cells #[.map (some mb)] 87)) (.cells #[.string { data := #[] }] 9)
    rwa [World.size_alloc, World.size_alloc] at this
  have hseq := told1_m (m := 8) (B := w.heap.size) (ts := [22, 33]) k1 k2 (hK.below b2) hlt (by omega) (by decide) (by decide) (by decide) (by omega) (fun x hx => by have := (hl x hx).2; omega)
  have HSQ := Lib.hid hseq
  have HI0 : Hid (Coll w [] w2) := Lib.hid ⟨⟨none, 0, k0, World.ownsRow_nil _ _ _ _⟩, b2⟩
  have HLL := Lib.hid hl
  have HBB := Lib.hid hb
  have HS2 := Lib.hid s2
  clear hseq k0 k1 k2 hl hb b2 s2 hK
  refine (callsIn_wide (n := 9)).1 ?_
  refine callsIn_of_wp_marks Tryz.func47 rfl trivial ?_ rfl
  simp only [Tryz.ntmps47, List.size_toArray, List.length_cons, List.length_nil, Nat.reduceAdd, Nat.reduceSub, Array.replicate_succ, Array.replicate_zero, List.push_toArray, List.append_toArray, List.nil_append, List.cons_append]
  gi_wp2_with (refine ⟨trivial, ?_⟩; gi_at_call 54; refine (callsIn_wide.2 (told_c _ _ _)).mono ?_; rintro e w' ⟨rfl, rfl⟩)
  have hsz : w2.heap.size = w.heap.size + 3 := HS2.out
  refine range_m (α := TV) (F := Fence.wide) (n := 9) rfl (by decide) (gf := 78) (lb := #[.pointer (some ⟨w.heap.size + 1, 0, none⟩), .pointer (some ⟨w.heap.size + 1 + 1, 0, none⟩)]) rfl trivial (enters_of Tryz.func78 (by kernel_rfl) rfl)
    HSQ.out (fun _ => rfl) (by omega) (Coll w) (fun _ _ _ => False) (fun pre A A' h hT => h.tch (by omega) hT) (fun _ _ _ _ h _ => h) (fun x A A' h hT => ⟨h.1.tch hT (by simp), h.2⟩) (fun xs A A' h hT => ⟨h.1, fun x hx => (h.2 x hx).tch hT (by simp)⟩) HI0.out
    (fun x => { tmps := #[.map (some mb), undef, .slice none 0 0, .int .i64 0, .pointer (some ⟨w.heap.size, 0, none⟩), .string (str x.k), .slice x.A x.v.length x.c, .map (some mb), .func (.func 78) #[] #[.pointer (some ⟨w.heap.size + 1, 0, none⟩), .pointer (some ⟨w.heap.size + 1 + 1, 0, none⟩)], .string (str x.k), .slice x.A x.v.length x.c, undef, undef, undef, undef, undef, undef, undef, undef, undef, undef], defers := [] }) ?assign ?body ?done ?stop
  case assign =>
    intro l x W K hK
    unfold TV.enc
    gi_wp2
    exact hK
  case stop =>
    rintro c pre W h _
    exact h.elim
  case body =>
    rintro pre x W ⟨⟨A, c, hbx, hrow⟩, hB⟩ hpn hx hz hn1 hn2
    have cb := one_cell hbx
    have fb := blk_free hbx 0
    have hzW := hB.size
    obtain ⟨i0, hi, iz0, iz1, iz2⟩ := info_parts Tryz.infoPut
    have NP := Lib.hid (new_put W x.put)
    have HR := Lib.hid hrow
    have HBX := Lib.hid hbx
    have HB := Lib.hid hB
    have N1 := Lib.hid hn1
    have N2 := Lib.hid hn2
    clear hrow hbx hB hn1 hn2
    gi_wp2_with (gi_at_builtin; refine wpListIn_append_own _ rfl _ _ 22 rfl w.heap.size 33 i0 _ 3 48 Tryz.underlying22 hi iz0 iz1 iz2 rfl (by decide) _ pre.length (pcells (pre.map TV.put)) rfl (HR.out.alloc _) ⟨W.heap.size, 0, none⟩ 1 1 x.put.cells rfl rfl NP.out (pcell_one _) (by unfold maxLen; omega) (by omega) (by simp; omega) ?_; intro v' w1 hown' hgrow _; obtain ⟨A1, k1, rfl⟩ := own_slice hown'; have hp1 := grown_blk (HR.out.alloc _) hgrow (blk_alloc HBX.out _) (by decide); have c2 := one_cell hp1; have f2 := blk_free hp1 0; have T1 := Lib.hid (grown_tch (B := w.heap.size) (ts := [22, 33]) (HR.out.alloc _) hgrow (Nat.le_refl _) (by simp; omega) (by decide)); have G1 := Lib.hid hgrow; have HO := Lib.hid hown'; have HP1 := Lib.hid hp1; clear hgrow hown' hp1)
    have T2 := ((Tch.refl w.heap.size [22, 33] W).alloc hzW (.cells #[.string (str x.k), .slice x.A x.v.length x.c, .bool false] 33)).trans T1.out
    have T3 := T2.setCell (p := ⟨w.heap.size, 0, none⟩) HP1.out (by decide) (Nat.le_refl _) (.slice A1 (pre.length + 1) k1)
    have el : (pre ++ [x]).length = pre.length + 1 := by simp
    refine ⟨⟨?_, ?_⟩, T3, ⟨⟨A1, k1, ?_, ?_⟩, HB.out.trans T3.below⟩⟩
    · refine (Below.heap_setCell w1 _ _ _ (by show _ ≠ w.heap.size; omega)).trans ((keep_nc N2.out (by omega) HR.out G1.out).trans rfl)
    · refine (Below.heap_setCell w1 _ _ _ (by show _ ≠ w.heap.size; omega)).trans ((keep_nc N1.out (by omega) HR.out G1.out).trans rfl)
    · rw [el]
      exact one_setCell HP1.out
    · rw [el, List.map_append, List.map_cons, List.map_nil, pcells_snoc]
      exact own_far HO.out HP1.out (by decide) _
  case done =>
    rintro ys W ⟨hkv, hpre⟩ ⟨⟨A, c, hbx, hrow⟩, hB⟩ hD
    have cb := one_cell hbx
    have hzW := hB.size
    have hul : UL W 0 33 5 A (ys.map TV.put) := ⟨lies_own hrow, fun m hm => by
      obtain ⟨x, hx, rfl⟩ := List.mem_map.1 hm
      exact hpre x hx⟩
    have hpu : pus (ys.map TV.put) = St.puts L := by
      rw [← hkv]
      simp [pus, St.puts, TV.put, TV.kv]
    have hyl : ys.length = L.length := by rw [← hkv, List.length_map]
    have hsm : ∀ m ∈ ys.map TV.put, m.p.k.length < 128 ∧ m.p.v.length ≤ 60000 := fun m hm => by
      obtain ⟨x, hx, rfl⟩ := List.mem_map.1 hm
      exact HLL.out x.kv (by rw [← hkv]; exact List.mem_map.2 ⟨x, hx, rfl⟩)
    have SH : Hid (Calls Tryz.prog 45 #[.bool true, .slice A ys.length c] W (BErrOk W.heap.size 0 (St.bts true (St.puts L)) W)) := Lib.hid (by
      have q := short_c (all := true) (n := ys.length) (c := c) hul (by simp) (by simp; omega) hsm (by rw [hpu]; exact HBB.out)
      rw [hpu] at q
      exact q)
    have HD := Lib.hid hD
    have HBW := Lib.hid hB
    clear hkv hpre hbx hrow hB hul hpu hsm hD hyl
    gi_wp2_with (refine ⟨trivial, ?_⟩; gi_at_call 45; refine (callsIn_wide.2 SH.out).mono ?_; rintro e w5 ⟨A5, n5, c5, rfl, rfl, hc5, ho5, hb5⟩)
    have hD5 := (hb5.block w2.heap.size (lt_of_block HD.out)).trans HD.out
    rw [hsz] at hD5
    have R5 : BErrOk w.heap.size 0 (St.bts true (St.puts L)) w (.returned (.tuple #[.slice A5 (St.bts true (St.puts L)).length c5, .int .i64 0])) (shut w5 [w.heap.size + 3]) := by
      refine ⟨A5, _, c5, rfl, rfl, hc5, ?_, ?_⟩
      · exact own_shut (own_less ho5 hzW) hD5
      · exact (HBW.out.trans (hb5.mono hzW)).trans (shut_below hD5 (by omega))
    have RR := Lib.hid R5
    have HD5 := Lib.hid hD5
    clear R5 hD5 ho5 hb5
    exact leaves_marks (v := .tuple #[.slice A5 (St.bts true (St.puts L)).length c5, .int .i64 0]) (Ds := [w.heap.size + 3]) (by simp) (fun D hD => by rw [List.mem_singleton] at hD; subst hD; exact HD5.out) (fun u => results_tmp2 (t := 2) (u := 3) rfl _ _ u) RR.out
end
end Go.Proofs.YtpnfpeeijghamaaGreat
