/- Stage 10: the function that is handed to the sort by rank.Order; the sort by it; slices.Clone of texts. -/
import Derived.Test.YtjaaehbllkbiaaaGreatKb
import Derived.Test.YtjaaehbllkbiaaaGreatTs
namespace Go.Proofs.YtjaaehbllkbiaaaGreat
open Go.Shelf Go.RowKit Go.Lib Go.Sort
set_option maxRecDepth 100000

/-- A float's word, whatever number stands for it. -/
def rkw (n : Nat) : Nat := n % 18446744073709551616
theorem rkw_lt (n : Nat) : rkw n < 18446744073709551616 := Nat.mod_lt _ (by decide)
theorem rkw_id {n : Nat} (h : n < 18446744073709551616) : rkw n = n := Nat.mod_eq_of_lt h
def rkM (m : MTk) : MTk := ⟨{ m.t with rank := rkw m.t.rank }, m.A, m.c⟩
theorem rkM_id {m : MTk} (h : m.t.rank < 18446744073709551616) : rkM m = m := by
  unfold rkM
  rw [rkw_id h]
def encR (m : MTk) : List Value := encK (rkM m)
theorem encR_len (m : MTk) : (encR m).length = 7 := rfl
theorem encR_one (m : MTk) : ∀ v ∈ encR m, v.oneCell' = true := encK_one _
def cfR (x y : MTk) : Int := if Fl.lt (rkw x.t.rank) (rkw y.t.rank) = true then -1 else if Fl.lt (rkw y.t.rank) (rkw x.t.rank) = true then 1 else cmpI x.t.id y.t.id
theorem pl_rkw (n : Nat) : Fl.pl (rkw n) = Fl.pl n := by
  have h1 : rkw n % Fl.two63 = n % Fl.two63 := by unfold rkw; rw [Fl.two63_eq]; omega
  have h2 : rkw n / Fl.two63 % 2 = n / Fl.two63 % 2 := by unfold rkw; rw [Fl.two63_eq]; omega
  have e : Fl.isN (rkw n) = Fl.isN n := by unfold Fl.isN; rw [h1]
  unfold Fl.pl
  rw [e]
  unfold Fl.sv
  rw [h1, h2]
theorem lt_rkw (a b : Nat) : Fl.lt (rkw a) (rkw b) = Fl.lt a b := by
  rw [Bool.eq_iff_iff, Fl.lt_true, Fl.lt_true, pl_rkw, pl_rkw]
theorem ltOf_R : ltOf cfR = fun x y => T9.ltR x.t y.t := by
  funext x y
  show decide (cfR x y < 0) = T9.ltR x.t y.t
  unfold cfR T9.ltR
  rw [lt_rkw, lt_rkw]
  cases h : Fl.lt x.t.rank y.t.rank
  · cases k : Fl.lt y.t.rank x.t.rank
    · rw [if_neg (by decide), if_neg (by decide), cmpI_neg]; simp
    · rw [if_neg (by decide), if_pos rfl]; rfl
  · rw [if_pos rfl]; rfl
theorem woRM : Sr.WO (ltOf cfR) := by
  rw [ltOf_R]
  exact ⟨fun a => T9.woR.irr _, fun a b c => T9.woR.tr _ _ _, fun a b c => T9.woR.ng _ _ _⟩

set_option maxHeartbeats 1000000 in
theorem cmpR_w (x y : MTk) (W : World) :
    Calls Tryz.prog 120 #[.agg (encR x).toArray, .agg (encR y).toArray] W fun e w' => e = .returned (.int .i64 (cfR x y)) ∧ ∃ q os', w' = grow (W.drewN q) os' := by
  obtain ⟨wB, hwB⟩ : ∃ u, (W.alloc (.cells (encR x).toArray 45)).alloc (.cells (encR y).toArray 45) = u := ⟨_, rfl⟩
  have GB : Hid (∀ q os, grow (wB.drewN q) os = grow (W.drewN q) (#[.cells (encR x).toArray 45, .cells (encR y).toArray 45] ++ os)) := Lib.hid fun q os => by rw [← hwB]; exact grow_two W _ _ q os
  have kx : wB.heap[W.heap.size]? = some (.cells (encR x).toArray 45 (0, 0)) := by rw [← hwB]; exact blk_alloc (heap_alloc_new W _) _
  have ky : wB.heap[W.heap.size + 1]? = some (.cells (encR y).toArray 45 (0, 0)) := by
    rw [← hwB]
    have := heap_alloc_new (W.alloc (.cells (encR x).toArray 45)) (.cells (encR y).toArray 45)
    rwa [World.size_alloc] at this
  have rx := rkw_lt x.t.rank
  have ry := rkw_lt y.t.rank
  unfold encR encK rkM at kx ky hwB ⊢
  dsimp only at kx ky hwB ⊢
  unfold cfR
  generalize rkw x.t.rank = a at *
  generalize rkw y.t.rank = b at *
  obtain ⟨x0, x1, x2, x3, x4, x5, x6⟩ := seven_cells kx
  obtain ⟨y0, y1, y2, y3, y4, y5, y6⟩ := seven_cells ky
  clear kx ky
  have FIN : Hid (∃ q os', wB = grow (W.drewN q) os') := Lib.hid ⟨0, _, (show wB = grow (wB.drewN 0) #[] by rw [drewN_zero, grow_empty]).trans (GB.out 0 #[])⟩
  cases h : Fl.lt a b
  · cases k : Fl.lt b a
    · rw [if_neg (by decide), if_neg (by decide)]
      go_enter Tryz.func120, Tryz.ntmps120
      go_wp2_with (first | (go_at_call 121; refine (less_c _ _ _ (by assumption) (by assumption)).mono ?_; rintro e w' ⟨rfl, rfl⟩) | (go_at_call 83; refine (cmpU_c _ _ _).mono ?_; rintro e w' ⟨rfl, rfl⟩))
      go_ret
      exact ⟨rfl, FIN.out⟩
    · rw [if_neg (by decide), if_pos rfl]
      go_enter Tryz.func120, Tryz.ntmps120
      go_wp2_with (go_at_call 121; refine (less_c _ _ _ (by assumption) (by assumption)).mono ?_; rintro e w' ⟨rfl, rfl⟩)
      go_ret
      exact ⟨rfl, FIN.out⟩
  · rw [if_pos rfl]
    go_enter Tryz.func120, Tryz.ntmps120
    go_wp2_with (go_at_call 121; refine (less_c _ _ _ (by assumption) (by assumption)).mono ?_; rintro e w' ⟨rfl, rfl⟩)
    go_ret
    exact ⟨rfl, FIN.out⟩

theorem sortR_c {blk cap : Nat} {d : Array MTk} {w : World} {g : Nat} {cb : Array Value} (R : RowK encR 7 w blk 0 d) (S : SWK encR 7 w blk 0 d w) (eg : ∀ args w, (callFunc g args).run Tryz.prog w = .ok (.enter g args) w) (hcmp : CmpLays Tryz.prog g cb encR 7 cfR blk 0 d.size w) (hsz : d.size < 4611686018427387904) (n : Nat) (hn : n = d.size) :
    Calls Tryz.prog 103 #[.slice (some ⟨blk, 0, none⟩) n cap, .func (.func g) #[] cb] w fun e w' => e = .returned (.tuple #[]) ∧ SrtOkK cfR encR 7 w blk 0 d [] d.toList [] w' := by
  have hc := stableK srtK 7 Tryz.isAgg45 Tryz.sizeOf45 encR blk 0 cap d d w w R rfl S cfR g cb eg hcmp woRM n hn hsz
  rw [← hn] at hc
  have HC := Lib.hid hc
  clear hc hcmp R S hn hsz
  go_enter Tryz.func103, Tryz.ntmps103
  go_wp2_with (go_at_call 128; refine HC.out.mono ?_; rintro e w1 ⟨rfl, hw1⟩)
  have H := Lib.hid hw1
  clear hw1
  go_wp2
  go_end0
  exact ⟨rfl, H.out⟩

/-- A copy of texts. -/
def CloneS10Ok (ts : List (List UInt8)) (w : World) (e : Ending) (w' : World) : Prop := ∃ A2 c2, e = .returned (.slice A2 ts.length c2) ∧ Lies w' 0 9 A2 (gcells ts) ∧ ts.length ≤ c2 ∧ Below w.heap.size w w'
set_option maxHeartbeats 1000000 in
theorem cloneS10_c {A : Option Addr} {n c : Nat} {ts : List (List UInt8)} {w : World} (h : GL w A ts) (hn : n = ts.length) (hs : n ≤ 1000000000) : Calls Tryz.prog 119 #[.slice A n c] w (CloneS10Ok ts w) := by
  obtain ⟨i0, hi, hz0, hz1, hz2⟩ := info_parts Tryz.infoStr9
  have q := fun (w : World) a n c n' c' => Lib.run_eql_slice_nil (P := Tryz.prog) w 43 9 a n c n' c' Tryz.underlying43
  have HL := Lib.hid h
  have HN := Lib.hid hn
  clear h hn
  rcases A with _ | ad
  · have h0 : n = 0 := by
      rcases Nat.eq_zero_or_pos n with q | q
      · exact q
      · obtain ⟨ad, _, e, _⟩ := HL.out.at_ (k := 0) (by have := HN.out; omega)
        cases e
    subst h0
    have e : ts = [] := List.length_eq_zero_iff.1 HN.out.symm
    subst e
    go_enter Tryz.func119, Tryz.ntmps119
    go_wp2
    go_ret
    exact ⟨_, 0, rfl, Lies.nil, Nat.le_refl _, Below.refl _ _⟩
  · have ho : (w.alloc (.cells #[] 9)).ownsRow w.heap.size 9 1 (.slice (some ⟨w.heap.size, 0, none⟩) 0 0) 0 [] := World.ownsRow_made w #[] 0 (Nat.le_refl _) (by unfold maxLen; omega) rfl
    have HO := Lib.hid ho
    clear ho
    go_enter Tryz.func119, Tryz.ntmps119
    go_wp2_with (at_builtin; refine wpList_app _ rfl _ _ 43 rfl w.heap.size 9 i0 _ 1 16 Tryz.underlying43 hi hz0 hz1 hz2 rfl (by decide) _ 0 [] rfl HO.out (w.alloc (.cells #[] 9)).heap.size _ n c (gcells ts) 0 rfl (by rw [gcells_len, HN.out]; omega) (Lies.stay HL.out ((Below.refl _ _).alloc (Nat.le_refl _) _)) (gcells_one _) (by unfold maxLen; omega) (by omega) (by simp) ?_)
    intro v' w1 hown' hgrow _
    obtain ⟨A2, k2, rfl⟩ := own_slice hown'
    have T1 := app_below HO.out hgrow
    have ho2 : w1.ownsRow w.heap.size 9 1 (.slice A2 n k2) n (gcells ts) := by simpa using hown'
    have HO2 := Lib.hid ho2
    have HT := Lib.hid T1
    clear hown' ho2 T1 hgrow
    go_wp2
    go_ret
    refine ⟨A2, k2, by rw [← HN.out]; simp, lies_own HO2.out, by rw [← HN.out]; exact (own_room HO2.out).2, HT.out⟩
end Go.Proofs.YtjaaehbllkbiaaaGreat
