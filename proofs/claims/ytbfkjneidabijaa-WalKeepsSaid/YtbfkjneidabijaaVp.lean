/- Stage 7: the law WalKeeps, the walk. -/
import Derived.Test.YtbfkjneidabijaaVn
namespace Go.Proofs.Ytbfkjneidabijaa
open Go.RowKit
set_option maxRecDepth 100000

theorem Wl.Good.reach {d d' : Dk.D} {g h : Nat} {l : List (List UInt8)} (t : Wl.Good d g h l) (hs : d'.s = d.s) : Wl.Good d' g h l :=
  ⟨by rw [hs]; exact t.two, by rw [hs]; exact t.len, t.small, by have := t.fits; unfold Wl.ring at this ⊢; rwa [hs], by have := t.at_; unfold Wl.ring at this ⊢; rwa [hs]⟩
theorem Wl.Idle.arm {d : Dk.D} (i : Wl.Idle d) (n : Int) : Wl.Idle (Dk.arm d n) := ⟨Dk.arm_ok i.ok n, i.dead, i.cache, i.bad⟩
theorem Wl.needs_few : ∀ {l : List (List UInt8)}, (∀ b ∈ l, b.length ≤ 400) → Wl.needs l ≤ 7 * l.length := by
  intro l
  induction l with
  | nil => intro _; exact Nat.le_refl _
  | cons b l ih =>
    intro h
    have h1 := ih (fun x hx => h x (by simp [hx]))
    have h2 : Wl.need b ≤ 7 := by
      have := h b (by simp)
      unfold Wl.need
      rw [if_neg (by omega)]
      omega
    have h3 : Wl.needs (b :: l) = Wl.need b + Wl.needs l := by simp [Wl.needs]
    rw [h3, List.length_cons]
    omega
/-- What a change leaves to a crash: the records from before, or those it asked for. -/
theorem Ends.after {g h h' n : Nat} {l l' : List (List UInt8)} {d d' : Dk.D} {e : Int} {x : Wl.W} (hE : Wl.Ends g h l h' l' d n e x d') (ks : List Bool) :
    ∃ g2 h2 l2, Wl.Good (Dk.crash d' ks) g2 h2 l2 ∧ Wl.Idle (Dk.crash d' ks) ∧ ((l2 = l ∧ e ≠ 0) ∨ l2 = l') ∧ (Dk.crash d' ks).s.length = d.s.length := by
  obtain ⟨e1, e2, e3, _, _, _, e7⟩ := hE
  have i := Wl.crash_idle e1 e3 ks
  have len : (Dk.crash d' ks).s.length = d.s.length := by
    rw [← e2]
    show (Dk.keepSome d'.s d'.cache ks).length = _
    rw [Dk.keepSome_len]
  rcases e7 ks with ⟨q, hn⟩ | q
  · exact ⟨g, h, l, q, i, .inl ⟨rfl, hn⟩, len⟩
  · exact ⟨g + 1, h', l', q, i, .inr rfl, len⟩
theorem vchg_err {s : VS} {d : Dk.D} {gone : Nat} {m : List (List UInt8)} (ho : s.over = false) (hr : Wl.roomE (Wl.ring d - Wl.needs s.l) m = 0) (h3 : 3 ≤ d.s.length) : (vchg s d gone m).1 = 0 ∨ (vchg s d gone m).1 = 50 := by
  obtain ⟨e, D, hw⟩ : ∃ e D, Wl.wrs (Wl.ring d) (s.h + Wl.needs s.l) (Wl.chunks m) d = (e, D) := ⟨_, _, rfl⟩
  have er := wrs_err (r := Wl.ring d) (Wl.chunks m) (d := d) (s.h + Wl.needs s.l) rfl h3 (Wl.chunks_small m)
  have sz := wrs_size (r := Wl.ring d) (Wl.chunks m) (d := d) (s.h + Wl.needs s.l)
  rw [hw] at er sz
  by_cases he : e = 0
  · subst he
    obtain ⟨e2, s2, D2, hv⟩ : ∃ e2 s2 D2, vsave s D (s.h + Wl.needs (s.l.take gone)) (s.l.drop gone ++ m) = (e2, s2, D2) := ⟨_, _, _, rfl⟩
    rw [vchg_save ho hr hw hv]
    have e := save_err (d := D) (g := s.g + 1) (l := [s.h + Wl.needs (s.l.take gone), s.h + Wl.needs (s.l.take gone) + Wl.needs (s.l.drop gone ++ m)]) (by dsimp only at sz; omega) (by simp)
    unfold vsave at hv
    split at hv
    · injection hv with hv _
      exact .inl hv.symm
    · injection hv with hv _
      rw [← hv]
      exact e
  · rw [vchg_bad ho hr hw he]
    exact er
theorem tcells_app (a b : List MTx) : tcells (a ++ b) = tcells a ++ tcells b := by simp [tcells]
theorem CWStep.row {w w' : World} {B base : Nat} {E G E2 G2 : Nat → Prop} {pw q : Nat} {s : VS} {d : Dk.D} {e : TypeId} {size n : Nat} {v : Value} {xs : List Value} (hs : CWStep w w' B E G E2 G2 pw q s d) (ho : w.ownsRow base e size v n xs) (hoff : ∀ k, v.ownBlock = some k → ¬ E k ∧ ¬ G k) :
    w'.ownsRow base e size v n xs ∧ ∀ k, v.ownBlock = some k → ¬ E2 k ∧ ¬ G2 k :=
  ⟨own_keep ho (fun k e => hs.but.block k (ho.lt k e).2 (fun z => z.elim (hoff k e).1 (hoff k e).2)), fun k e => ⟨fun g => (hoff k e).1 (hs.ne k (ho.lt k e).2 g), fun g => (hoff k e).2 (hs.ng k (ho.lt k e).2 g)⟩⟩
theorem few_needs {l : List MTx} (h : l.length ≤ 6 ∧ ∀ x ∈ l, x.b.length ≤ 400) : Wl.needs (txs l) ≤ 42 ∧ ∀ b ∈ txs l, b.length ≤ 60000 := by
  have q : ∀ b ∈ txs l, b.length ≤ 400 := fun b hb => by
    obtain ⟨x, hx, rfl⟩ := List.mem_map.1 hb
    exact h.2 x hx
  have n := Wl.needs_few q
  rw [txs_len] at n
  exact ⟨by omega, fun b hb => by have := q b hb; omega⟩

set_option maxHeartbeats 16000000 in
set_option maxRecDepth 100000 in
theorem walKeeps_c {A1 A2 KA : Option Addr} {c1 c2 ck : Nat} {l m : List MTx} {sw : Bool} {ks : List Bool} {w : World} (arm : Int) (h1 : TL w w.heap.size 0 0 A1 l) (h2 : TL w w.heap.size 0 0 A2 m) (hl1 : ∀ x ∈ l, x.b.length ≤ maxLen) (hl2 : ∀ x ∈ m, x.b.length ≤ maxLen) (hs1 : l.length ≤ maxLen) (hs2 : m.length ≤ maxLen) (ha : arm ≤ 9223372036854775807) (hK : Lies w w.heap.size 0 KA (ks.map Value.bool)) (hck : ks.length ≤ ck) :
    Calls Try.prog 3 #[.slice A1 l.length c1, .slice A2 m.length c2, .bool sw, .int .i64 arm, .slice KA ks.length ck] w fun e w' => e = .returned (.bool true) ∧ Below w.heap.size w w' := by
  have H1 := Lib.hid h1
  have H2 := Lib.hid h2
  have X1 := Lib.hid hl1
  have X2 := Lib.hid hl2
  have HA := Lib.hid ha
  have HK := Lib.hid hK
  have HCK := Lib.hid hck
  obtain ⟨tt, ht, it0, it1, it2⟩ := info_parts Try.infoTexts
  have eml : maxLen ≤ 9223372036854775807 := by decide
  obtain ⟨n1, en1⟩ : ∃ n, n = l.length := ⟨_, rfl⟩
  obtain ⟨n2, en2⟩ : ∃ n, n = m.length := ⟨_, rfl⟩
  obtain ⟨n3, en3⟩ : ∃ n, n = ks.length := ⟨_, rfl⟩
  rw [← en1] at hs1
  rw [← en2] at hs2
  rw [← en1, ← en2, ← en3]
  rw [← en3] at HCK
  have N1 := Lib.hid en1
  have N2 := Lib.hid en2
  have N3 := Lib.hid en3
  obtain ⟨b1, eb1⟩ : ∃ b, b = decide (l.length ≤ 6 ∧ ∀ x ∈ l, x.b.length ≤ 400) := ⟨_, rfl⟩
  obtain ⟨b2, eb2⟩ : ∃ b, b = decide (m.length ≤ 6 ∧ ∀ x ∈ m, x.b.length ≤ 400) := ⟨_, rfl⟩
  have QB1 := Lib.hid eb1
  have QB2 := Lib.hid eb2
  have F1 := Lib.hid (fun (u : World) (h : TL u w.heap.size 0 0 A1 l) => by have q := few7_c (c := c1) h en1 (by omega) (fun x hx => by have := hl1 x hx; omega); rw [← eb1] at q; exact q)
  have F2 := Lib.hid (fun (u : World) (h : TL u w.heap.size 0 0 A2 m) => by have q := few7_c (c := c2) h en2 (by omega) (fun x hx => by have := hl2 x hx; omega); rw [← eb2] at q; exact q)
  clear h1 h2 hl1 hl2 ha hK hck en1 en2 en3 eb1 eb2 eml
  go_enter Try.func3, Try.ntmps3
  go_wp2_with fail
  refine (awake7 w).mono ?_
  rintro e w1 ⟨rfl, hb1⟩
  have B1 := Lib.hid hb1
  clear hb1
  have z1 := B1.out.size
  go_wp2_with fail
  refine (F1.out _ (H1.out.below (Nat.le_refl _) B1.out)).mono ?_
  rintro e w2 ⟨rfl, rfl⟩
  cases b1 with
  | false =>
    go_wp2
    go_ret
    exact ⟨rfl, B1.out⟩
  | true =>
  have QL := Lib.hid (show l.length ≤ 6 ∧ ∀ x ∈ l, x.b.length ≤ 400 from of_decide_eq_true QB1.out.symm)
  go_wp2_with fail
  refine (F2.out _ (H2.out.below (Nat.le_refl _) B1.out)).mono ?_
  rintro e w2 ⟨rfl, rfl⟩
  cases b2 with
  | false =>
    go_wp2
    go_ret
    exact ⟨rfl, B1.out⟩
  | true =>
  have QM := Lib.hid (show m.length ≤ 6 ∧ ∀ x ∈ m, x.b.length ≤ 400 from of_decide_eq_true QB2.out.symm)
  by_cases q3 : 60 < n3
  · go_wp2
    go_ret
    exact ⟨rfl, B1.out⟩
  have n16 : n1 ≤ 6 := by rw [N1.out]; exact QL.out.1
  have n26 : n2 ≤ 6 := by rw [N2.out]; exact QM.out.1
  have K1 := Lib.hid (few_needs QL.out).1
  have K2 := Lib.hid (few_needs QM.out).1
  have LL := Lib.hid (show ∀ x ∈ l, x.b.length ≤ 1000000 from fun x hx => by have := QL.out.2 x hx; omega)
  have LM := Lib.hid (show ∀ x ∈ m, x.b.length ≤ 1000000 from fun x hx => by have := QM.out.2 x hx; omega)
  obtain ⟨f1, f2, f3, f4, f5⟩ := format_good (n := 100) (by decide)
  obtain ⟨D1, hD1⟩ : ∃ D, D = (Wl.format (Dk.new 100)).2 := ⟨_, rfl⟩
  rw [← hD1] at f2 f3 f4 f5
  have len1 : D1.s.length = 100 := by rw [f5]; rfl
  obtain ⟨D2, a1, a2, a3, a4, a5⟩ := vchg_fine (s := ⟨0, 0, [], false⟩) (d := D1) (m := txs l) false rfl f2 f3 f4 (by unfold Wl.ring; rw [len1]; exact Wl.roomE_ok (few_needs QL.out).2 (by show ¬ (100 - 2 - 0 < Wl.needs (txs l)); have := K1.out; omega)) (by decide) (by show 0 + 0 + Wl.needs (txs l) < _; have := K1.out; omega)
  have OP1 := Lib.hid (f4.opens f2.clear)
  have FF := Lib.hid f1
  have E1 := Lib.hid hD1
  have I1 := Lib.hid f2
  have L1 := Lib.hid f3
  have M1 := Lib.hid (show 3 ≤ D1.s.length by omega)
  have A1' := Lib.hid (show vchg ⟨0, 0, [], false⟩ D1 0 (txs l) = (0, ⟨1, 0, txs l, false⟩, D2) from a1)
  have I2 := Lib.hid a2
  have L2 := Lib.hid a3
  have G2' := Lib.hid (show Wl.Good D2 1 0 (txs l) from a4)
  have L100 := Lib.hid (show (Dk.arm D2 arm).s.length = 100 from a5.trans len1)
  have RM := Lib.hid (show Wl.roomE (Wl.ring (Dk.arm D2 arm) - Wl.needs (txs l)) (txs m) = 0 by
    unfold Wl.ring
    rw [L100.out]
    exact Wl.roomE_ok (few_needs QM.out).2 (by have := K1.out; have := K2.out; omega))
  have AL := Lib.hid (show -1 ≤ (Dk.arm D2 arm).left by show -1 ≤ (if 0 ≤ arm then arm else -1); split <;> omega)
  have AT := Lib.hid (show (Dk.arm D2 arm).left ≤ 9223372036854775807 by have := HA.out; show (if 0 ≤ arm then arm else -1) ≤ _; split <;> omega)
  clear f1 f2 f3 f4 f5 a1 a2 a3 a4 a5 hD1 len1
  go_wp2_with fail
  refine (cdNew_c _ _ (by decide)).mono ?_
  intro e w2 hp
  obtain ⟨q, G2, rfl, hs2, _, hb2⟩ := CNewOk.step z1 hp
  have S2 := Lib.hid hs2
  have B2 := Lib.hid (B1.out.trans (hb2.mono z1))
  have z2 := B2.out.size
  clear hp hs2 hb2
  go_wp2_with fail
  refine (vFormat_c S2.out.cd S2.out.old_lt (Dk.new_ok 100) (by decide) (by decide)).mono ?_
  rw [FF.out, ← E1.out]
  intro e w3 hp
  obtain ⟨rfl, G3, hs3⟩ := CdOk.step S2.out z2 hp
  have S3 := Lib.hid hs3.cs
  have B3 := Lib.hid (B2.out.trans hs3.below)
  have z3 := B3.out.size
  clear hp hs3
  go_wp2_with fail
  refine (vOpen_c S3.out.cd S3.out.old_lt I1.out.ok (by rw [I1.out.cache]; decide) M1.out).mono ?_
  rw [OP1.out]
  intro e w4 hp
  obtain ⟨pw, s, AR, cR, ms, rfl, hsw, _, _, hc4, _, _, hb4⟩ := hp.good S3.out z3 rfl
  have hs0 := VS.of_wal (g := 0) (h := 0) (l := []) hsw
  subst hs0
  have C4 := Lib.hid hc4
  have B4 := Lib.hid (B3.out.trans (hb4.mono z3))
  have z4 := B4.out.size
  clear hp hc4 hb4 hsw
  go_wp2_with fail
  refine (vAdd_c C4.out.x I1.out.ok (i64_of L1.out) (by rw [I1.out.cache]; decide) (U64.of (by decide)) (H1.out.txs LL.out B4.out C4.out.cs.old) N1.out (by omega) (U64.of (by show 0 + 0 + Wl.needs (txs l) < _; have := K1.out; omega))).mono ?_
  rw [A1'.out]
  intro e w4 hp
  obtain ⟨rfl, E4, G4, hs4⟩ := VOk.step C4.out z4 hp
  have C4 := Lib.hid hs4.cs
  have B4 := Lib.hid (B4.out.trans hs4.below)
  have z4 := B4.out.size
  clear hp hs4
  have P1 : (tcells l).length = n1 * 1 := by rw [tcells_len, N1.out, Nat.mul_one]
  have P1' : (tcells m).length = n2 * 1 := by rw [tcells_len, N2.out, Nat.mul_one]
  have P2 := H1.out.1.below (Nat.le_refl _) B4.out
  have P3 : 0 + n1 ≤ maxLen := by unfold maxLen; omega
  have P4 : (0 + n1) * 24 ≤ 140737488355328 := by omega
  have P3' : n1 + n2 ≤ maxLen := by unfold maxLen; omega
  have P4' : (n1 + n2) * 24 ≤ 140737488355328 := by omega
  have Y7 := fun (ops : Array Oper) (rest : List Oper) (o : Oper) (a : Act) (Q : Exit → Act → World → Prop) (hgd : o.guard = none) (s x : Operand) (ho : o.op = .call { callee := .builtin .append, args := #[s, x], argTypes := #[22, 22] }) (hs : a.eval s = .slice none 0 0) (hx : a.eval x = .slice A1 n1 c1) => wpList_app (P := Try.prog) (ops := ops) (rest := rest) (o := o) (a := a) (Q := Q) w4 hgd s x 22 ho w4.heap.size 38 tt (.slice none 0 0) 1 24 Try.underlying22 ht it0 it1 it2 rfl (by decide) (.slice none 0 0) 0 [] hs (World.ownsRow_nil _ _ _ _) w.heap.size A1 n1 c1 (tcells l) 0 hx P1 P2 (tcells_one _) P3 P4 (Nat.le_refl _)
  have Y8 := fun (ops : Array Oper) (rest : List Oper) (o : Oper) (a : Act) (Q : Exit → Act → World → Prop) (hgd : o.guard = none) (s x : Operand) (ho : o.op = .call { callee := .builtin .append, args := #[s, x], argTypes := #[22, 22] }) (v5 : Value) (w5 : World) (O50 : w5.ownsRow w4.heap.size 38 1 v5 n1 (tcells l)) (B50 : Below w4.heap.size w4 w5) (hs : a.eval s = v5) (hx : a.eval x = .slice A2 n2 c2) => wpList_app (P := Try.prog) (ops := ops) (rest := rest) (o := o) (a := a) (Q := Q) w5 hgd s x 22 ho w4.heap.size 38 tt (.slice none 0 0) 1 24 Try.underlying22 ht it0 it1 it2 rfl (by decide) v5 n1 (tcells l) hs O50 w.heap.size A2 n2 c2 (tcells m) 0 hx P1' (H2.out.1.below (Nat.le_refl _) (B4.out.trans (B50.mono z4))) (tcells_one _) P3' P4' B50.size
  go_wp2_with (first
    | (at_builtin; (apply Y7); (case hgd => rfl); (case ho => rfl); (case hs => exact Eq.refl _); (case hx => exact Eq.refl _); go_loud (intro v5 w5 hown5 hgr5 _); go_loud (rw [List.nil_append, Nat.zero_add] at hown5); have O50 := Lib.hid hown5; go_loud (have B50 := Lib.hid (app_below0 (show w4.ownsRow w4.heap.size 38 1 (.slice none 0 0) 0 [] from World.ownsRow_nil _ _ _ _) hgr5 (Nat.le_refl _))); clear hown5 hgr5)
    | (at_builtin; go_loud (apply Y8 (v5 := v5) (w5 := w5) (O50 := O50.out) (B50 := B50.out)); (case hgd => rfl); (case ho => rfl); (case hs => exact Eq.refl _); (case hx => exact Eq.refl _); go_loud (intro v5' w5' hown5' hgr5' _); go_loud (obtain ⟨A5, k5, rfl⟩ := own_slice hown5'); have O51 := Lib.hid hown5'; go_loud (have B51 := Lib.hid (B50.out.trans (app_below0 O50.out hgr5' B50.out.size))); clear hown5' hgr5')
    | fail)
  have C5 := Lib.hid (C4.out.keep B51.out)
  have OF5 := Lib.hid (show ∀ k, (Value.slice A5 (n1 + n2) k5).ownBlock = some k → ¬ E4 k ∧ ¬ G4 k from fun k e => ⟨fun g => by have := (O51.out.lt k e).1; have := C4.out.x.eo k g; omega, fun g => by have := (O51.out.lt k e).1; have := C4.out.x.go k g; omega⟩)
  have B5 := Lib.hid (B4.out.trans (B51.out.mono z4))
  have z5 := B5.out.size
  have O5 := Lib.hid O51.out
  clear O50 O51 B50 B51 P1 P1' P2 P3 P4 P3' P4' Y7 Y8
  refine (cdArm_c C5.out.x.cd arm).mono ?_
  intro e w5 hp
  obtain ⟨rfl, G5, hs5⟩ := CdOk0.step C5.out.cs z5 hp
  have hs5 := C5.out.disk hs5 rfl
  have r5 := hs5.row O5.out OF5.out
  have O5 := Lib.hid r5.1
  have OF5 := Lib.hid r5.2
  have C5 := Lib.hid hs5.cs
  have B5 := Lib.hid (B5.out.trans hs5.below)
  have z5 := B5.out.size
  clear hp hs5 r5
  cases sw with
  | true =>
    have VG := vchg_good (s := ⟨1, 0, txs l, false⟩) (d := Dk.arm D2 arm) (m := txs m) true rfl (I2.out.arm arm) AL.out (G2'.out.reach rfl) (show (1 : Nat) + 1 < 18446744073709551616 by decide) (by show 0 + Wl.needs (txs l) + Wl.needs (txs m) < _; have := K1.out; have := K2.out; omega)
    obtain ⟨e6, s6, D6, hv, hE⟩ := VG
    have VE := vchg_err (gone := (txs l).length) (s := ⟨1, 0, txs l, false⟩) (d := Dk.arm D2 arm) (m := txs m) rfl RM.out (G2'.out.reach rfl).len
    have HV := Lib.hid (show vchg ⟨1, 0, txs l, false⟩ (Dk.arm D2 arm) (txs l).length (txs m) = (e6, s6, D6) from hv)
    rw [HV.out] at VE
    have E6 := Lib.hid (show e6 = 0 ∨ e6 = 50 from VE)
    have hE' : Wl.Ends 1 0 (txs l) (Wl.nextHead 0 (txs l) true) (Wl.nextRecs (txs l) (txs m) true) (Dk.arm D2 arm) (Wl.needs (txs m) + 1) e6 s6.wal D6 := hE
    obtain ⟨g2, h2, l2, kg, ki, ke, kl⟩ := Ends.after hE' ks
    have KG := Lib.hid kg
    have KI := Lib.hid ki
    have KE := Lib.hid (show (l2 = txs l ∧ e6 ≠ 0) ∨ l2 = txs m from ke)
    have KL := Lib.hid (show (Dk.crash D6 ks).s.length = 100 by rw [kl]; exact L100.out)
    have KOK := Lib.hid hE.1
    have KFEW := Lib.hid (show D6.cache.length ≤ 43 by have z := hE.2.2.2.2.1; have := K2.out; omega)
    have KN := Lib.hid (show l2.length ≤ 12 by
      have h1 : (txs l).length ≤ 6 := by rw [txs_len]; exact QL.out.1
      have h2 : (txs m).length ≤ 6 := by rw [txs_len]; exact QM.out.1
      rcases KE.out with ⟨z, _⟩ | z
      · rw [z]; omega
      · rw [z]; omega)
    clear hv hE hE' VE kg ki ke kl
    go_wp2_with fail
    refine (vSwap_c (s := ⟨1, 0, txs l, false⟩) C5.out.x (I2.out.arm arm).ok AT.out (by rw [(I2.out.arm arm).cache]; decide) (show U64 ((1 : Nat) + 1) from U64.of (by decide)) (H2.out.txs LM.out B5.out C5.out.cs.old) N2.out (by omega) (U64.of (by show 0 + Wl.needs (txs l) + Wl.needs (txs m) < _; have := K1.out; have := K2.out; omega))).mono ?_
    rw [show vchg ⟨1, 0, txs l, false⟩ (Dk.arm D2 arm) (txs l).length (txs m) = (e6, s6, D6) from HV.out]
    intro e w6 hp
    obtain ⟨rfl, E6', G6, hs6⟩ := VOk.step C5.out z5 hp
    have C6 := Lib.hid hs6.cs
    skip
    have B6 := Lib.hid (B5.out.trans hs6.below)
    have z6 := B6.out.size
    clear hp hs6
    dsimp only at C6 ⊢
    go_wp2_with fail
    refine (cdCrash_c (ks := ks) C6.out.x.cd KOK.out (by have := KFEW.out; omega) (HK.out.below (Nat.le_refl _) B6.out) (HK.out.far C6.out.cs.old B6.out.size) N3.out (by omega) HCK.out).mono ?_
    intro e w7 hp
    obtain ⟨rfl, G7, hs7⟩ := CdOk0.step C6.out.cs z6 hp
    have S7 := Lib.hid hs7.cs
    skip
    have B7 := Lib.hid (B6.out.trans hs7.below)
    have z7 := B7.out.size
    clear hp hs7
    go_wp2_with fail
    refine (vOpen_c S7.out.cd S7.out.old_lt KI.out.ok (by rw [KI.out.cache]; decide) (by have := KL.out; omega)).mono ?_
    rw [KG.out.opens KI.out.clear]
    intro e w8 hp
    obtain ⟨pw8, s8, AR8, cR8, ms8, rfl, hsw8, _, hms8, _, hr8, hf8, hb8⟩ := hp.good S7.out z7 rfl
    have es8 := VS.of_wal (g := g2) (h := h2) (l := l2) hsw8
    subst es8
    have TR := Lib.hid (show TL w8 0 38 5 AR8 ms8 from ⟨lies_own hr8, fun m hm => (hf8 m hm).1⟩)
    have ER := Lib.hid (show txs ms8 = l2 from hms8)
    have B8 := Lib.hid (B7.out.trans (hb8.mono z7))
    have WT := Lib.hid (H2.out.below (Nat.le_refl _) B8.out)
    have WX := Lib.hid (show txs m = txs m from rfl)
    have NR := Lib.hid (show ms8.length ≤ 12 by
      have q : ms8.length = l2.length := by rw [← ER.out, txs_len]
      have := KN.out
      omega)
    have T1 := Lib.hid (H1.out.below (Nat.le_refl _) B8.out)
    obtain ⟨n8, en8⟩ : ∃ n, n = ms8.length := ⟨_, rfl⟩
    rw [← en8]
    have N8 := Lib.hid en8
    have n82 : n8 ≤ 12 := by rw [en8]; exact NR.out
    clear hp hsw8 hms8 hr8 hf8 hb8 en8
    rcases E6.out with h60 | h65
    · subst h60
      have hl2 : l2 = txs m := KE.out.resolve_left (fun z => z.2 rfl)
      have Q1 := Lib.hid (show decide (txs ms8 = txs m) = true by rw [ER.out, hl2]; simp)
      go_wp2_with fail
      refine (sameTexts_c (A := AR8) (c := cR8) TR.out WT.out N8.out N2.out (by omega)).mono ?_
      rw [Q1.out]
      rintro e w9 ⟨rfl, j1, rfl⟩
      go_wp2
      go_ret
      exact ⟨rfl, below_drewN B8.out j1⟩
    · subst h65
      go_wp2_with fail
      refine (sameTexts_c (A := AR8) (c := cR8) TR.out WT.out N8.out N2.out (by omega)).mono ?_
      obtain ⟨b1, hb1⟩ : ∃ b, b = decide (txs ms8 = txs m) := ⟨_, rfl⟩
      rw [← hb1]
      have Q1 := Lib.hid hb1
      clear hb1
      rintro e w9 ⟨rfl, j1, rfl⟩
      cases b1 with
      | true =>
        go_wp2
        go_ret
        exact ⟨rfl, below_drewN B8.out j1⟩
      | false =>
        have hx : l2 = txs l ∧ (50 : Int) ≠ 0 := by
          rcases KE.out with z | z
          · exact z
          · exfalso
            have q := Q1.out
            rw [ER.out, z] at q
            simp at q
        skip
        have Q2 := Lib.hid (show decide (txs ms8 = txs l) = true by rw [ER.out, hx.1]; simp)
        go_wp2_with fail
        refine (sameTexts_c (A := AR8) (c := cR8) (TR.out.drewN j1) (T1.out.drewN j1) N8.out N1.out (by omega)).mono ?_
        rw [Q2.out]
        rintro e w10 ⟨rfl, j2, rfl⟩
        go_wp2
        go_ret
        exact ⟨rfl, below_drewN B8.out (j1 + j2)⟩
  | false =>
    have VG := vchg_good (s := ⟨1, 0, txs l, false⟩) (d := Dk.arm D2 arm) (m := txs m) false rfl (I2.out.arm arm) AL.out (G2'.out.reach rfl) (show (1 : Nat) + 1 < 18446744073709551616 by decide) (by show 0 + Wl.needs (txs l) + Wl.needs (txs m) < _; have := K1.out; have := K2.out; omega)
    obtain ⟨e6, s6, D6, hv, hE⟩ := VG
    have VE := vchg_err (gone := 0) (s := ⟨1, 0, txs l, false⟩) (d := Dk.arm D2 arm) (m := txs m) rfl RM.out (G2'.out.reach rfl).len
    have HV := Lib.hid (show vchg ⟨1, 0, txs l, false⟩ (Dk.arm D2 arm) 0 (txs m) = (e6, s6, D6) from hv)
    rw [HV.out] at VE
    have E6 := Lib.hid (show e6 = 0 ∨ e6 = 50 from VE)
    have hE' : Wl.Ends 1 0 (txs l) (Wl.nextHead 0 (txs l) false) (Wl.nextRecs (txs l) (txs m) false) (Dk.arm D2 arm) (Wl.needs (txs m) + 1) e6 s6.wal D6 := hE
    obtain ⟨g2, h2, l2, kg, ki, ke, kl⟩ := Ends.after hE' ks
    have KG := Lib.hid kg
    have KI := Lib.hid ki
    have KE := Lib.hid (show (l2 = txs l ∧ e6 ≠ 0) ∨ l2 = txs l ++ txs m from ke)
    have KL := Lib.hid (show (Dk.crash D6 ks).s.length = 100 by rw [kl]; exact L100.out)
    have KOK := Lib.hid hE.1
    have KFEW := Lib.hid (show D6.cache.length ≤ 43 by have z := hE.2.2.2.2.1; have := K2.out; omega)
    have KN := Lib.hid (show l2.length ≤ 12 by
      have h1 : (txs l).length ≤ 6 := by rw [txs_len]; exact QL.out.1
      have h2 : (txs m).length ≤ 6 := by rw [txs_len]; exact QM.out.1
      rcases KE.out with ⟨z, _⟩ | z
      · rw [z]; omega
      · rw [z]; rw [List.length_append]; omega)
    clear hv hE hE' VE kg ki ke kl
    go_wp2_with fail
    refine (vAdd_c (s := ⟨1, 0, txs l, false⟩) C5.out.x (I2.out.arm arm).ok AT.out (by rw [(I2.out.arm arm).cache]; decide) (show U64 ((1 : Nat) + 1) from U64.of (by decide)) (H2.out.txs LM.out B5.out C5.out.cs.old) N2.out (by omega) (U64.of (by show 0 + Wl.needs (txs l) + Wl.needs (txs m) < _; have := K1.out; have := K2.out; omega))).mono ?_
    rw [show vchg ⟨1, 0, txs l, false⟩ (Dk.arm D2 arm) 0 (txs m) = (e6, s6, D6) from HV.out]
    intro e w6 hp
    obtain ⟨rfl, E6', G6, hs6⟩ := VOk.step C5.out z5 hp
    have C6 := Lib.hid hs6.cs
    have r6 := hs6.row O5.out OF5.out
    have O6 := Lib.hid r6.1
    have OF6 := Lib.hid r6.2
    clear r6
    have B6 := Lib.hid (B5.out.trans hs6.below)
    have z6 := B6.out.size
    clear hp hs6
    dsimp only at C6 ⊢
    go_wp2_with fail
    refine (cdCrash_c (ks := ks) C6.out.x.cd KOK.out (by have := KFEW.out; omega) (HK.out.below (Nat.le_refl _) B6.out) (HK.out.far C6.out.cs.old B6.out.size) N3.out (by omega) HCK.out).mono ?_
    intro e w7 hp
    obtain ⟨rfl, G7, hs7⟩ := CdOk0.step C6.out.cs z6 hp
    have S7 := Lib.hid hs7.cs
    have r7 := hs7.row7 O6.out (fun k hk => (OF6.out k hk).2)
    have O7 := Lib.hid r7.1
    clear r7
    have B7 := Lib.hid (B6.out.trans hs7.below)
    have z7 := B7.out.size
    clear hp hs7
    go_wp2_with fail
    refine (vOpen_c S7.out.cd S7.out.old_lt KI.out.ok (by rw [KI.out.cache]; decide) (by have := KL.out; omega)).mono ?_
    rw [KG.out.opens KI.out.clear]
    intro e w8 hp
    obtain ⟨pw8, s8, AR8, cR8, ms8, rfl, hsw8, _, hms8, _, hr8, hf8, hb8⟩ := hp.good S7.out z7 rfl
    have es8 := VS.of_wal (g := g2) (h := h2) (l := l2) hsw8
    subst es8
    have TR := Lib.hid (show TL w8 0 38 5 AR8 ms8 from ⟨lies_own hr8, fun m hm => (hf8 m hm).1⟩)
    have ER := Lib.hid (show txs ms8 = l2 from hms8)
    have B8 := Lib.hid (B7.out.trans (hb8.mono z7))
    have WT := Lib.hid (show TL w8 w.heap.size 38 0 A5 (l ++ m) from ⟨by have z := lies_own (B := w.heap.size) (own_below O7.out hb8); rw [← tcells_app] at z; exact z, fun x hx => (List.mem_append.1 hx).elim (fun y => (H1.out.2 x y).below (Nat.le_refl _) B8.out) (fun y => (H2.out.2 x y).below (Nat.le_refl _) B8.out)⟩)
    have WX := Lib.hid (show txs (l ++ m) = txs l ++ txs m by simp [txs])
    have NR := Lib.hid (show ms8.length ≤ 12 by
      have q : ms8.length = l2.length := by rw [← ER.out, txs_len]
      have := KN.out
      omega)
    have T1 := Lib.hid (H1.out.below (Nat.le_refl _) B8.out)
    obtain ⟨n8, en8⟩ : ∃ n, n = ms8.length := ⟨_, rfl⟩
    rw [← en8]
    have N8 := Lib.hid en8
    have n82 : n8 ≤ 12 := by rw [en8]; exact NR.out
    clear hp hsw8 hms8 hr8 hf8 hb8 en8
    rcases E6.out with h60 | h65
    · subst h60
      have hl2 : l2 = txs l ++ txs m := KE.out.resolve_left (fun z => z.2 rfl)
      have Q1 := Lib.hid (show decide (txs ms8 = txs (l ++ m)) = true by rw [ER.out, hl2, WX.out]; simp)
      go_wp2_with fail
      refine (sameTexts_c (A := AR8) (c := cR8) TR.out WT.out N8.out (by rw [List.length_append, ← N1.out, ← N2.out] : n1 + n2 = (l ++ m).length) (by omega)).mono ?_
      rw [Q1.out]
      rintro e w9 ⟨rfl, j1, rfl⟩
      go_wp2
      go_ret
      exact ⟨rfl, below_drewN B8.out j1⟩
    · subst h65
      go_wp2_with fail
      refine (sameTexts_c (A := AR8) (c := cR8) TR.out WT.out N8.out (by rw [List.length_append, ← N1.out, ← N2.out] : n1 + n2 = (l ++ m).length) (by omega)).mono ?_
      obtain ⟨b1, hb1⟩ : ∃ b, b = decide (txs ms8 = txs (l ++ m)) := ⟨_, rfl⟩
      rw [← hb1]
      have Q1 := Lib.hid hb1
      clear hb1
      rintro e w9 ⟨rfl, j1, rfl⟩
      cases b1 with
      | true =>
        go_wp2
        go_ret
        exact ⟨rfl, below_drewN B8.out j1⟩
      | false =>
        have hx : l2 = txs l ∧ (50 : Int) ≠ 0 := by
          rcases KE.out with z | z
          · exact z
          · exfalso
            have q := Q1.out
            rw [ER.out, z, WX.out] at q
            simp at q
        skip
        have Q2 := Lib.hid (show decide (txs ms8 = txs l) = true by rw [ER.out, hx.1]; simp)
        go_wp2_with fail
        refine (sameTexts_c (A := AR8) (c := cR8) (TR.out.drewN j1) (T1.out.drewN j1) N8.out N1.out (by omega)).mono ?_
        rw [Q2.out]
        rintro e w10 ⟨rfl, j2, rfl⟩
        go_wp2
        go_ret
        exact ⟨rfl, below_drewN B8.out (j1 + j2)⟩
end Go.Proofs.Ytbfkjneidabijaa
