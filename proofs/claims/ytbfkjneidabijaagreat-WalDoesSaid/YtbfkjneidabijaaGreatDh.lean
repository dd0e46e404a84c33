/- Contract of the document's own Disk: Write. Contracts of the document's own Disk: Write, Wipe. Contracts of the document's own Disk: Wipe. -/
import Derived.Test.YtbfkjneidabijaaGreatDe
import Derived.Test.YtbfkjneidabijaaGreatRg
namespace Go.Proofs.YtbfkjneidabijaaGreat
open Go.RowKit
set_option maxRecDepth 100000

theorem Tryz.infoWrite : (Tryz.prog.info? 96).map (fun i => (i.zero, i.size, i.bytes)) = some (some (.agg #[.int .i64 0, .slice none 0 0]), 2, 32) := by kernel_rfl

theorem put_as_sec {d : Dk.D} {i : Nat} {b : List UInt8} : Dk.put d (i : Int) b = { d with cache := d.cache ++ [(i, Dk.sec b)] } := rfl

set_option maxHeartbeats 16000000 in
set_option maxRecDepth 100000 in
theorem refWrite_ok {w : World} {F : Nat → Prop} {p : Nat} {d : Dk.D} {A : Option Addr} {n c : Nat} {b : List UInt8} {B : Nat} {t : TypeId} (h : RD w F p d) (hd : d.ok) (hl : d.left ≤ 9223372036854775807) (hcl : d.cache.length ≤ 100000000)
    (hL : Lies w B t A (bcells b)) (hBF : bcells b ≠ [] → InF (fun k => ¬ F k ∧ k < w.heap.size) A) (hn : n = b.length) (i : Nat) (hi : Dk.has d (i : Int) = true) (hdd : d.dead = false) (hb : n ≤ 64) (ha : (Dk.act d).1 = 0) :
    Calls Tryz.prog 29 #[.pointer (some ⟨p, 0, none⟩), .int .i64 (i : Int), .slice A n c] w (DiskOk F p 0 (Dk.put (Dk.act d).2 (i : Int) b) w) := by
  obtain ⟨tu, hu, iu0, iu1, iu2⟩ := info_parts Tryz.infoU8
  obtain ⟨tw, hw, iw0, iw1, iw2⟩ := info_parts Tryz.infoWrite
  have H := Lib.hid h
  have c4 := (show w.cell? ⟨p, 4, none⟩ = some (.bool d.dead) by
    obtain ⟨AS, AC, AB, cS, cC, cB, ms, cs, r, _, _⟩ := h
    exact r.fields.2.2.2.2.1)
  rw [hdd] at c4
  have HD := Lib.hid hd
  have HL := Lib.hid hl
  have HI := Lib.hid hi
  have HA := Lib.hid ha
  have LB := Lib.hid hL
  have IB := Lib.hid hBF
  have HN := Lib.hid hn
  clear h hd hl hi ha hL hBF hn hdd
  go_enter Tryz.func29, Tryz.ntmps29
  go_wp2_with fail
  refine (refHas_c H.out i).mono ?_
  rw [HI.out]
  rintro e w0 ⟨rfl, rfl⟩
  go_wp2_with fail
  refine (refAct_c H.out HD.out HL.out).mono ?_
  rw [HA.out]
  rintro e w1 ⟨rfl, hr1, hb1⟩
  obtain ⟨AS, AC, AB, cS, cC, cB, ms, cs, r, e1, e2⟩ := hr1
  have R := Lib.hid r
  have E1 := Lib.hid e1
  have E2 := Lib.hid e2
  have HB1 := Lib.hid hb1
  have LB1 := Lib.hid (LB.out.but IB.out hb1)
  have c1 := r.fields.2.1
  have cl : cs.length ≤ 100000000 := by rw [← wrs_len cs, e2, Dk.act_cache]; exact hcl
  have hz1 := hb1.size
  have plt := lt_of_block r.cell
  clear r e1 e2 hb1 hcl c4
  have s1 : IntKind.i64.wrap (64 - (n : Int)) = ((64 - n : Nat) : Int) := by rw [IntWalk.i64_in _ (by omega)]; omega
  have b0 : (0 : Int) ≤ (cs.length : Int) := by omega
  -- REGION
  go_wp2_with fail
  refine Any.begin (S := fun u => u.cell? ⟨p, 1, none⟩ = some (.slice AC cs.length cC)) (st := 28) (by kernel_rfl) ?_
  have kc := (own_room R.out.c).2
  have NL : Hid (AC = none → cs.length = 0) := by
    refine Lib.hid fun e => ?_
    rcases R.out.c.2 with ⟨_, q⟩ | ⟨g, cap, cur, q, _⟩
    · exact q
    · injection q with q1
      rw [e] at q1
      cases q1
  have SL : Hid ((Dk.sec b).length = 64) := Lib.hid (Dk.sec_len (by rw [← HN.out]; exact hb))
  have S0 : w1.drew.cell? ⟨p, 1, none⟩ = some (.slice AC cs.length cC) := c1
  refine Any.take (st := 28) (i := 0) (v := ?_) rfl (by kernel_rfl) (by kernel_rfl) (by kernel_rfl) rfl (by kernel_rfl) (fun _ _ _ h => h) (Or.inl ⟨by rfl, ?_⟩) (by assumption) ?_
  rotate_left
  · intro u hu
    go_simp
    try rfl
  simp only [Act.put, List.setIfInBounds_toArray, List.set_cons_zero, List.set_cons_succ, List.getElem_toArray, List.getElem_cons_zero]
  refine Any.take (st := 28) (i := 1) (v := ?_) rfl (by kernel_rfl) (by kernel_rfl) (by kernel_rfl) rfl (by kernel_rfl) (fun _ _ _ h => h) (Or.inl ⟨by rfl, ?_⟩) (by assumption) ?_
  rotate_left
  · intro u hu
    go_simp
    try rfl
  simp only [Act.put, List.setIfInBounds_toArray, List.set_cons_zero, List.set_cons_succ, List.getElem_toArray, List.getElem_cons_zero, List.getElem_cons_succ]
  refine Any.take (st := 28) (i := 2) (v := ?_) rfl (by kernel_rfl) (by kernel_rfl) (by kernel_rfl) rfl (by kernel_rfl) (fun _ _ _ h => h) (Or.inl ⟨by rfl, ?_⟩) (by assumption) ?_
  rotate_left
  · intro u hu
    go_simp
    try rfl
  simp only [Act.put, List.setIfInBounds_toArray, List.set_cons_zero, List.set_cons_succ, List.getElem_toArray, List.getElem_cons_zero, List.getElem_cons_succ]
  refine Any.take (st := 28) (i := 3) (v := ?_) rfl (by kernel_rfl) (by kernel_rfl) (by kernel_rfl) rfl (by kernel_rfl) (fun _ _ _ h => h) (Or.inl ⟨by rfl, ?_⟩) (by assumption) ?_
  rotate_left
  · intro u hu
    go_simp
    try rfl
  simp only [Act.put, List.setIfInBounds_toArray, List.set_cons_zero, List.set_cons_succ, List.getElem_toArray, List.getElem_cons_zero, List.getElem_cons_succ]
  refine Any.take (st := 28) (i := 4) (v := ?_) rfl (by kernel_rfl) (by kernel_rfl) (by kernel_rfl) rfl (by kernel_rfl) (fun _ _ _ h => h) (Or.inl ⟨by rfl, ?_⟩) (by assumption) ?_
  rotate_left
  · intro u hu
    go_simp
    try rfl
  simp only [Act.put, List.setIfInBounds_toArray, List.set_cons_zero, List.set_cons_succ, List.getElem_toArray, List.getElem_cons_zero, List.getElem_cons_succ]
  refine Any.take (st := 28) (i := 5) (v := ?_) rfl (by kernel_rfl) (by kernel_rfl) (by kernel_rfl) rfl (by kernel_rfl) (fun _ _ _ h => h) (Or.inl ⟨by rfl, ?_⟩) (by assumption) ?_
  rotate_left
  · intro u hu
    go_simp
    try rfl
  simp only [Act.put, List.setIfInBounds_toArray, List.set_cons_zero, List.set_cons_succ, List.getElem_toArray, List.getElem_cons_zero, List.getElem_cons_succ]
  refine Any.take (st := 28) (i := 6) (v := ?_) rfl (by kernel_rfl) (by kernel_rfl) (by kernel_rfl) rfl (by kernel_rfl) (fun _ _ _ h => h) (Or.inl ⟨by rfl, ?_⟩) (by assumption) ?_
  rotate_left
  · intro u hu
    go_simp
    try rfl
  simp only [Act.put, List.setIfInBounds_toArray, List.set_cons_zero, List.set_cons_succ, List.getElem_toArray, List.getElem_cons_zero, List.getElem_cons_succ]
  refine Any.take (st := 28) (i := 7) (v := ?_) rfl (by kernel_rfl) (by kernel_rfl) (by kernel_rfl) rfl (by kernel_rfl) (fun _ _ _ h => h) (Or.inl ⟨by rfl, ?_⟩) (by assumption) ?_
  rotate_left
  · intro u hu
    go_simp
    try rfl
  simp only [Act.put, List.setIfInBounds_toArray, List.set_cons_zero, List.set_cons_succ, List.getElem_toArray, List.getElem_cons_zero, List.getElem_cons_succ]
  refine Any.take (st := 28) (i := 8) (v := ?_) rfl (by kernel_rfl) (by kernel_rfl) (by kernel_rfl) rfl (by kernel_rfl) (fun _ _ _ h => h) (Or.inl ⟨by rfl, ?_⟩) (by assumption) ?_
  rotate_left
  · intro u hu
    go_simp
    try rfl
  simp only [Act.put, List.setIfInBounds_toArray, List.set_cons_zero, List.set_cons_succ, List.getElem_toArray, List.getElem_cons_zero, List.getElem_cons_succ]
  refine Any.take (st := 28) (i := 9) (v := ?_) rfl (by kernel_rfl) (by kernel_rfl) (by kernel_rfl) rfl (by kernel_rfl) (fun _ _ _ h => h) (Or.inl ⟨by rfl, ?_⟩) (by assumption) ?_
  rotate_left
  · intro u hu
    go_simp
    try rfl
  simp only [Act.put, List.setIfInBounds_toArray, List.set_cons_zero, List.set_cons_succ, List.getElem_toArray, List.getElem_cons_zero, List.getElem_cons_succ]
  refine Any.take (st := 28) (i := 10) (v := ?_) rfl (by kernel_rfl) (by kernel_rfl) (by kernel_rfl) rfl (by kernel_rfl) (fun _ _ _ h => h) (Or.inl ⟨by rfl, ?_⟩) (by assumption) ?_
  rotate_left
  · intro u hu
    go_simp
    try rfl
  simp only [Act.put, List.setIfInBounds_toArray, List.set_cons_zero, List.set_cons_succ, List.getElem_toArray, List.getElem_cons_zero, List.getElem_cons_succ]
  refine Any.take (st := 28) (i := 11) (v := ?_) rfl (by kernel_rfl) (by kernel_rfl) (by kernel_rfl) rfl (by kernel_rfl) (fun _ _ _ h => h) (Or.inl ⟨by rfl, ?_⟩) (by assumption) ?_
  rotate_left
  · intro u hu
    go_simp
    try rfl
  simp only [Act.put, List.setIfInBounds_toArray, List.set_cons_zero, List.set_cons_succ, List.getElem_toArray, List.getElem_cons_zero, List.getElem_cons_succ]
  refine Any.take (st := 28) (i := 12) (v := ?_) rfl (by kernel_rfl) (by kernel_rfl) (by kernel_rfl) rfl (by kernel_rfl) (fun _ _ _ h => h) (Or.inl ⟨by rfl, ?_⟩) (by assumption) ?_
  rotate_left
  · intro u hu
    go_simp
    try rfl
  simp only [Act.put, List.setIfInBounds_toArray, List.set_cons_zero, List.set_cons_succ, List.getElem_toArray, List.getElem_cons_zero, List.getElem_cons_succ]
  refine Any.take (st := 28) (i := 13) (v := ?_) rfl (by kernel_rfl) (by kernel_rfl) (by kernel_rfl) rfl (by kernel_rfl) (fun _ _ _ h => h) (Or.inl ⟨by rfl, ?_⟩) (by assumption) ?_
  rotate_left
  · intro u hu
    go_simp
    try rfl
  simp only [Act.put, List.setIfInBounds_toArray, List.set_cons_zero, List.set_cons_succ, List.getElem_toArray, List.getElem_cons_zero, List.getElem_cons_succ]
  refine Any.take (st := 28) (i := 14) (v := ?_) rfl (by kernel_rfl) (by kernel_rfl) (by kernel_rfl) rfl (by kernel_rfl) (fun _ _ _ h => h) (Or.inl ⟨by rfl, ?_⟩) (by assumption) ?_
  rotate_left
  · intro u hu
    go_simp
    try rfl
  simp only [Act.put, List.setIfInBounds_toArray, List.set_cons_zero, List.set_cons_succ, List.getElem_toArray, List.getElem_cons_zero, List.getElem_cons_succ]
  refine Any.take (st := 28) (i := 15) (v := ?_) rfl (by kernel_rfl) (by kernel_rfl) (by kernel_rfl) rfl (by kernel_rfl) (fun _ _ _ h => h) (Or.inl ⟨by rfl, ?_⟩) (by assumption) ?_
  rotate_left
  · intro u hu
    go_simp
    try rfl
  simp only [Act.put, List.setIfInBounds_toArray, List.set_cons_zero, List.set_cons_succ, List.getElem_toArray, List.getElem_cons_zero, List.getElem_cons_succ]
  refine Any.take (st := 28) (i := 16) (v := ?_) rfl (by kernel_rfl) (by kernel_rfl) (by kernel_rfl) rfl (by kernel_rfl) (fun _ _ _ h => h) (Or.inl ⟨by rfl, ?_⟩) (by assumption) ?_
  rotate_left
  · intro u hu
    go_simp
    try rfl
  simp only [Act.put, List.setIfInBounds_toArray, List.set_cons_zero, List.set_cons_succ, List.getElem_toArray, List.getElem_cons_zero, List.getElem_cons_succ]
  refine Any.take (st := 28) (i := 17) (v := ?_) rfl (by kernel_rfl) (by kernel_rfl) (by kernel_rfl) rfl (by kernel_rfl) (fun _ _ _ h => h) (Or.inl ⟨by rfl, ?_⟩) (by assumption) ?_
  rotate_left
  · intro u hu
    go_simp
    try rfl
  simp only [Act.put, List.setIfInBounds_toArray, List.set_cons_zero, List.set_cons_succ, List.getElem_toArray, List.getElem_cons_zero, List.getElem_cons_succ]
  refine Any.take (st := 28) (i := 19) (v := ?_) rfl (by kernel_rfl) (by kernel_rfl) (by kernel_rfl) rfl (by kernel_rfl) (fun _ _ _ h => h) (Or.inl ⟨by rfl, ?_⟩) (by assumption) ?_
  rotate_left
  · intro u hu
    go_simp
    try rfl
  simp only [Act.put, List.setIfInBounds_toArray, List.set_cons_zero, List.set_cons_succ, List.getElem_toArray, List.getElem_cons_zero, List.getElem_cons_succ]
  refine Any.take (st := 28) (i := 20) (v := ?_) rfl (by kernel_rfl) (by kernel_rfl) (by kernel_rfl) rfl (by kernel_rfl) (fun _ _ _ h => h) (Or.inl ⟨by rfl, ?_⟩) (by assumption) ?_
  rotate_left
  · intro u hu
    go_simp
    try rfl
  simp only [Act.put, List.setIfInBounds_toArray, List.set_cons_zero, List.set_cons_succ, List.getElem_toArray, List.getElem_cons_zero, List.getElem_cons_succ]
  refine Any.take (st := 28) (i := 21) (v := ?_) rfl (by kernel_rfl) (by kernel_rfl) (by kernel_rfl) rfl (by kernel_rfl) (fun _ _ _ h => h) (Or.inl ⟨by rfl, ?_⟩) (by assumption) ?_
  rotate_left
  · intro u hu
    go_simp
    try rfl
  simp only [Act.put, List.setIfInBounds_toArray, List.set_cons_zero, List.set_cons_succ, List.getElem_toArray, List.getElem_cons_zero, List.getElem_cons_succ]
  clear s1
  refine Any.one (i := 18) (by kernel_rfl) rfl (fun K hK => ?_)
  refine step_own rfl _ _ 57 rfl w1.heap.size 5 tu (.int .u8 0) 1 1 Tryz.underlying57 hu iu0 iu1 iu2 rfl (by decide) _ 0 [] rfl (World.ownsRow_nil _ _ _ _) B A n c (bcells b) t rfl (by rw [bcells_len, HN.out]; omega) (by exact LB1.out) (bcells_one _) (by unfold maxLen; omega) (by omega) (Nat.le_refl _) ?_
  intro v2 w2 hown2 hgrow2 _
  rw [Nat.zero_add, List.nil_append] at hown2
  obtain ⟨A2, k2, rfl⟩ := own_slice hown2
  have b2 : Below w1.heap.size w1 w2 := (Below.refl w1.heap.size w1).drew.grown hgrow2 (Nat.le_refl _) (fun k e => by cases e)
  refine hK _ _ (fun _ => (b2.cell (p := ⟨p, 1, none⟩) plt).trans c1) ?_
  clear hK K hgrow2
  try simp only [Act.put, List.setIfInBounds_toArray, List.set_cons_zero, List.set_cons_succ, List.getElem_toArray, List.getElem_cons_zero, List.getElem_cons_succ]
  refine Any.one (i := 22) (by kernel_rfl) rfl (fun K hK => ?_)
  refine step_zeros rfl _ _ 57 3 rfl w1.heap.size 5 tu (.int .u8 0) 1 .i64 .i64 Tryz.underlying57 Tryz.underlying3 hu iu0 iu1 iu2 rfl rfl _ n _ rfl hown2 (64 - n) rfl (by unfold maxLen; omega) (by omega) b2.size ?_
  intro v3 w3 hown3 hgrow3 _
  have e64 : n + (64 - n) = 64 := by omega
  have esec : bcells b ++ List.replicate (64 - n) (.int .u8 0) = bcells (Dk.sec b) := by
    unfold Dk.sec bcells
    rw [List.map_append, List.map_replicate, ← HN.out]
    rfl
  rw [e64, esec] at hown3
  obtain ⟨A3, k3, rfl⟩ := own_slice hown3
  have b3 : Below w1.heap.size w1 w3 := b2.grown hgrow3 b2.size (fun k e => (hown2.lt k e).1)
  have S3 : w3.cell? ⟨p, 1, none⟩ = some (.slice AC cs.length cC) := (b3.cell (p := ⟨p, 1, none⟩) plt).trans c1
  refine hK _ _ (fun _ => S3) ?_
  clear hK K hgrow3 hown2 e64 esec
  try simp only [Act.put, List.setIfInBounds_toArray, List.set_cons_zero, List.set_cons_succ, List.getElem_toArray, List.getElem_cons_zero, List.getElem_cons_succ]
  refine Any.take (st := 28) (i := 23) (v := ?_) rfl (by kernel_rfl) (by kernel_rfl) (by kernel_rfl) rfl (by kernel_rfl) (fun _ _ _ h => h) (Or.inl ⟨by rfl, ?_⟩) (by assumption) ?_
  rotate_left
  · intro u hu
    go_simp
    try rfl
  simp only [Act.put, List.setIfInBounds_toArray, List.set_cons_zero, List.set_cons_succ, List.getElem_toArray, List.getElem_cons_zero, List.getElem_cons_succ]
  refine Any.one (i := 24) (by kernel_rfl) rfl (fun K hK => ?_)
  go_simp
  have b4 : Below w1.heap.size w1 (w3.alloc (.cells #[.int .i64 (i : Int), .slice A3 64 k3] 96)) := b3.alloc b3.size _
  refine hK _ _ (fun _ => (b4.cell (p := ⟨p, 1, none⟩) plt).trans c1) ?_
  clear hK K
  try simp only [Act.put, List.setIfInBounds_toArray, List.set_cons_zero, List.set_cons_succ, List.getElem_toArray, List.getElem_cons_zero, List.getElem_cons_succ]
  refine Any.one (i := 25) (by kernel_rfl) rfl (fun K hK => ?_)
  refine step_new rfl _ _ 66 rfl w1.heap.size 96 tw _ 2 32 Tryz.underlying66 hw iw0 iw1 iw2 rfl 0 96 AC cs.length (wcells cs) rfl (wcells_len cs) ((Lies.of_own (B := 0) R.out.c).below (Nat.zero_le _) b4) NL.out ⟨w3.heap.size, 0, none⟩ 1 1 (MWr.cells ⟨i, ⟨Dk.sec b, A3, k3⟩⟩) rfl rfl ?_ ?_ (by decide) (by unfold maxLen; omega) (by omega) b4.size ?_
  · intro j u hj
    rw [addr_at]
    have q := Lies.of_blk (B := 0) (heap_alloc_new w3 (.cells #[.int .i64 (i : Int), .slice A3 64 k3] 96))
    obtain ⟨ad, e, _, hc⟩ := q (by simp)
    injection e with e
    subst e
    have q2 := hc j u (by rw [← hj, MWr.cells, MTx.cell, SL.out])
    rwa [addr_at] at q2
  · intro u hu2
    exact wcells_one [⟨i, ⟨Dk.sec b, A3, k3⟩⟩] u (by simpa [wcells] using hu2)
  intro v4 w4 hown4 hgrow4 hblk4
  obtain ⟨A4, k4, rfl⟩ := own_slice hown4
  have b5 : Below w1.heap.size w1 w4 := b4.grown hgrow4 b4.size (fun k e => by cases e)
  have hp4 := (b5.block p plt).trans R.out.cell
  have pc := (five hp4).2.1
  have pf := (five hp4).2.2.2.2.2 1
  have b34 : Below w3.heap.size w3 w4 := ((Below.refl w3.heap.size w3).alloc (Nat.le_refl _) _).grown hgrow4 (by simp) (fun k e => by cases e)
  refine hK _ _ (fun _ => pc) ?_
  clear hK K hgrow4
  try simp only [Act.put, List.setIfInBounds_toArray, List.set_cons_zero, List.set_cons_succ, List.getElem_toArray, List.getElem_cons_zero, List.getElem_cons_succ]
  refine Any.one (i := 26) (by kernel_rfl) rfl (fun K hK => ?_)
  go_simp
  refine hK _ _ (fun _ => pc) ?_
  clear hK K
  try simp only [Act.put, List.setIfInBounds_toArray, List.set_cons_zero, List.set_cons_succ, List.getElem_toArray, List.getElem_cons_zero, List.getElem_cons_succ]
  refine Any.one (i := 27) (by kernel_rfl) rfl (fun K hK => ?_)
  go_simp
  refine hK _ _ (fun _ => pc) ?_
  clear hK K
  try simp only [Act.put, List.setIfInBounds_toArray, List.set_cons_zero, List.set_cons_succ, List.getElem_toArray, List.getElem_cons_zero, List.getElem_cons_succ]
  refine Any.one (i := 28) (by kernel_rfl) rfl (fun K hK => ?_)
  go_simp
  refine hK _ _ (fun q => absurd rfl q) ?_
  clear hK K
  try simp only [Act.put, List.setIfInBounds_toArray, List.set_cons_zero, List.set_cons_succ, List.getElem_toArray, List.getElem_cons_zero, List.getElem_cons_succ]
  refine Any.done (by kernel_rfl) ?_
  have O3 := Lib.hid hown3
  have O4 := Lib.hid hown4
  have B5 := Lib.hid b5
  have B34 := Lib.hid b34
  have P4 := Lib.hid hp4
  clear hown3 hown4 b5 b34 hp4 pc pf S0 S3 c1 b2 b3 b4 hblk4
  go_wp2
  go_ret
  have rx := R.out.below B5.out
  have e1 : (cs ++ [(⟨i, ⟨Dk.sec b, A3, k3⟩⟩ : MWr)]).length = cs.length + 1 := by simp
  have up : ∀ k, w1.heap.size ≤ k → Up F w.heap.size k := fun k hk => Or.inr (by omega)
  refine ⟨rfl, ⟨AS, A4, AB, cS, k4, cB, ms, cs ++ [⟨i, ⟨Dk.sec b, A3, k3⟩⟩], ⟨rx.fp, ?_, own_off rx.s P4.out (by decide) set_off, rx.sF, fun m hm => (rx.held m hm).off P4.out (by decide) set_off, ?_, InF.of_own O4.out up, ?_, own_off rx.b P4.out (by decide) set_off, rx.bF⟩, E1.out, ?_⟩, (HB1.out.trans (But.of_below (B5.out.mono hz1) F)).setCell rx.fp _⟩
  · rw [blk_set P4.out, e1]; rfl
  · have q := own_off (own_less O4.out (Nat.zero_le _)) P4.out (by decide) (set_off (u := .slice A4 (cs.length + 1) k4) (i := 1))
    rw [e1, wcells_snoc]
    exact q
  · intro x hx
    rw [List.mem_append, List.mem_singleton] at hx
    rcases hx with hx | rfl
    · exact (rx.heldC x hx).off P4.out (by decide) set_off
    · have hh : Held w4 (Up F w.heap.size) ⟨Dk.sec b, A3, k3⟩ := ⟨⟨(lies_own (B := 0) O3.out).below (Nat.zero_le _) B34.out, by show (Dk.sec b).length ≤ k3; rw [SL.out]; exact (own_room O3.out).2⟩, InF.of_own O3.out up, SL.out⟩
      exact hh.off P4.out (by decide) set_off
  · rw [wrs_snoc, E2.out]; rfl

set_option maxHeartbeats 2000000 in
theorem refWrite_c {w : World} {F : Nat → Prop} {p : Nat} {d : Dk.D} {A : Option Addr} {n c : Nat} {b : List UInt8} {B : Nat} {t : TypeId} (h : RD w F p d) (hd : d.ok) (hl : d.left ≤ 9223372036854775807) (hcl : d.cache.length ≤ 100000000)
    (hL : Lies w B t A (bcells b)) (hBF : bcells b ≠ [] → InF (fun k => ¬ F k ∧ k < w.heap.size) A) (hn : n = b.length) (i : Int) :
    Calls Tryz.prog 29 #[.pointer (some ⟨p, 0, none⟩), .int .i64 i, .slice A n c] w (DiskOk F p (Dk.write d i b).1 (Dk.write d i b).2 w) := by
  have H := Lib.hid h
  have c4 := (show w.cell? ⟨p, 4, none⟩ = some (.bool d.dead) by
    obtain ⟨AS, AC, AB, cS, cC, cB, ms, cs, r, _, _⟩ := h
    exact r.fields.2.2.2.2.1)
  have same : ∀ er, DiskOk F p er d w (.returned (.int .i64 er)) w := fun er => ⟨rfl, h.mono up_self, But.refl _ _ _⟩
  have SM := Lib.hid same
  clear same
  cases hdd : d.dead
  · cases hh : Dk.has d i
    · have he : Dk.write d i b = (1, d) := by unfold Dk.write; rw [if_neg (by rw [hdd]; simp), if_pos hh]
      rw [he]
      rw [hdd] at c4
      have HH := Lib.hid hh
      clear he hh hdd hcl hl hd hL hBF hn h
      go_enter Tryz.func29, Tryz.ntmps29
      go_wp2_with fail
      refine (refHas_c H.out i).mono ?_
      rw [HH.out]
      rintro e w1 ⟨rfl, rfl⟩
      go_wp2
      go_ret
      exact SM.out 1
    · by_cases hb : 64 < b.length
      · have he : Dk.write d i b = (2, d) := by unfold Dk.write; rw [if_neg (by rw [hdd]; simp), if_neg (by rw [hh]; simp), if_pos hb]
        rw [he]
        rw [hdd] at c4
        have HH := Lib.hid hh
        have hb2 : (64 : Int) < (n : Int) := by omega
        clear he hh hdd hcl hl hd hL hBF hn h hb
        go_enter Tryz.func29, Tryz.ntmps29
        go_wp2_with fail
        refine (refHas_c H.out i).mono ?_
        rw [HH.out]
        rintro e w1 ⟨rfl, rfl⟩
        go_wp2
        go_ret
        exact SM.out 2
      · obtain ⟨k, rfl⟩ := Int.eq_ofNat_of_zero_le (Dk.has_iff.1 hh).1
        by_cases ha : (Dk.act d).1 = 0
        · have he : Dk.write d (k : Int) b = (0, Dk.put (Dk.act d).2 (k : Int) b) := by unfold Dk.write; rw [if_neg (by rw [hdd]; simp), if_neg (by rw [hh]; simp), if_neg hb, if_pos ha]
          rw [he]
          exact refWrite_ok h hd hl hcl hL hBF hn k hh hdd (by omega) ha
        · have he : Dk.write d (k : Int) b = (50, (Dk.act d).2) := by
            unfold Dk.write; rw [if_neg (by rw [hdd]; simp), if_neg (by rw [hh]; simp), if_neg hb, if_neg ha]
            exact Prod.ext (Dk.act_no ha).1 rfl
          rw [he]
          have HA := Lib.hid (Dk.act_no ha).1
          rw [hdd] at c4
          have HH := Lib.hid hh
          have HD := Lib.hid hd
          have HL := Lib.hid hl
          have hb2 : (n : Int) ≤ 64 := by omega
          clear he hh hdd hcl hl hd hL hBF hn h hb ha
          go_enter Tryz.func29, Tryz.ntmps29
          go_wp2_with fail
          refine (refHas_c H.out k).mono ?_
          rw [HH.out]
          rintro e w1 ⟨rfl, rfl⟩
          go_wp2_with fail
          refine (refAct_c H.out HD.out HL.out).mono ?_
          rw [HA.out]
          rintro e w1 ⟨rfl, hr1, hb1⟩
          go_wp2
          go_ret
          exact ⟨rfl, hr1, hb1⟩
  · have he : Dk.write d i b = (50, d) := by unfold Dk.write; rw [if_pos hdd]
    rw [he]
    rw [hdd] at c4
    clear he hdd hcl hl hd hL hBF hn h
    go_enter Tryz.func29, Tryz.ntmps29
    go_wp2
    go_ret
    exact SM.out 50

theorem new_len {n : Nat} (h : n ≤ 4096) : Dk.new (n : Int) = Dk.fresh n := by
  unfold Dk.new Dk.count
  rw [Int.toNat_natCast, Nat.min_eq_left h]

/-- The disk of block q, put into block p. -/
theorem RS5.moved {w w' : World} {F G : Nat → Prop} {p q : Nat} {AS AC AB : Option Addr} {cS cC cB : Nat} {ms : List MTx} {cs : List MWr} {bad : List Bool} {left : Int} {dead : Bool} (h : RS5 w G q AS AC AB cS cC cB ms cs bad left dead)
    (hp : w'.heap[p]? = some (.cells #[.slice AS ms.length cS, .slice AC cs.length cC, .slice AB bad.length cB, .int .i64 left, .bool dead] 68 (0, 0))) (hk : ∀ k, k ≠ p → w'.heap[k]? = w.heap[k]?) (hG : ¬ G p) (hF : F p) (hGF : ∀ k, G k → F k) : RS5 w' F p AS AC AB cS cC cB ms cs bad left dead :=
  have hh : ∀ k, G k → w'.heap[k]? = w.heap[k]? := fun k g => hk k (fun e => hG (e ▸ g))
  ⟨hF, hp, own_keep h.s (fun k e => hh k (h.sF.row k e)), h.sF.mono hGF, fun m hm => ((h.held m hm).keepF hh).mono hGF, own_keep h.c (fun k e => hh k (h.cF.row k e)), h.cF.mono hGF, fun x hx => ((h.heldC x hx).keepF hh).mono hGF, own_keep h.b (fun k e => hh k (h.bF.row k e)), h.bF.mono hGF⟩

end Go.Proofs.YtbfkjneidabijaaGreat
