/- Stage 10: the function that is handed to the sort by rank.Order; the sort by it; slices.Clone of texts. -/
import Derived.Test.YtnhpkcphgdkdiaaKb
import Derived.Test.YtnhpkcphgdkdiaaTs
namespace Go.Proofs.Ytnhpkcphgdkdiaa
open Go.Shelf Go.RowKit Go.Lib Go.Sort
set_option maxRecDepth 100000

/-- A float's word, whatever number stands for it. -/
def rkw (n : Nat) : Nat := n % 18446744073709551616
theorem rkw_lt (n : Nat) : rkw n < 18446744073709551616 := Nat.mod_lt _ (by decide)
theorem rkw_id {n : Nat} (h : n < 18446744073709551616) : rkw n = n := Nat.mod_eq_of_lt h
def rkM (m : MTk) : MTk := ⟨{ m.t with rank := rkw m.t.rank }, m.A, m.c⟩
theorem rkM_id {m : MTk} (h : m.t.rank < 18446744073709551616) : rkM m = m := by
  unfold rkM
  rw [rkw_id h]
def encR (m : MTk) : List Value := encK (rkM m)
theorem encR_len (m : MTk) : (encR m).length = 7 := rfl
theorem encR_one (m : MTk) : ∀ v ∈ encR m, v.oneCell' = true := encK_one _
def cfR (x y : MTk) : Int := if Fl.lt (rkw x.t.rank) (rkw y.t.rank) = true then -1 else if Fl.lt (rkw y.t.rank) (rkw x.t.rank) = true then 1 else cmpI x.t.id y.t.id
theorem pl_rkw (n : Nat) : Fl.pl (rkw n) = Fl.pl n := by
  have h1 : rkw n % Fl.two63 = n % Fl.two63 := by unfold rkw; rw [Fl.two63_eq]; omega
  have h2 : rkw n / Fl.two63 % 2 = n / Fl.two63 % 2 := by unfold rkw; rw [Fl.two63_eq]; omega
  have e : Fl.isN (rkw n) = Fl.isN n := by unfold Fl.isN; rw [h1]
  unfold Fl.pl
  rw [e]
  unfold Fl.sv
  rw [h1, h2]
theorem lt_rkw (a b : Nat) : Fl.lt (rkw a) (rkw b) = Fl.lt a b := by
  rw [Bool.eq_iff_iff, Fl.lt_true, Fl.lt_true, pl_rkw, pl_rkw]
theorem ltOf_R : ltOf cfR = fun x y => T9.ltR x.t y.t := by
  funext x y
  show decide (cfR x y < 0) = T9.ltR x.t y.t
  unfold cfR T9.ltR
  rw [lt_rkw, lt_rkw]
  cases h : Fl.lt x.t.rank y.t.rank
  · cases k : Fl.lt y.t.rank x.t.rank
    · rw [if_neg (by decide), if_neg (by decide), cmpI_neg]; simp
    · rw [if_neg (by decide), if_pos rfl]; rfl
  · rw [if_pos rfl]; rfl
theorem woRM : Sr.WO (ltOf cfR) := by
  rw [ltOf_R]
  exact ⟨fun a => T9.woR.irr _, fun a b c => T9.woR.tr _ _ _, fun a b c => T9.woR.ng _ _ _⟩

theorem sortR_c {blk cap : Nat} {d : Array MTk} {w : World} {g : Nat} {cb : Array Value} (R : RowK encR 7 w blk 0 d) (S : SWK encR 7 w blk 0 d w) (eg : ∀ args w, (callFunc g args).run Try.prog w = .ok (.enter g args) w) (hcmp : CmpLays Try.prog g cb encR 7 cfR blk 0 d.size w) (hsz : d.size < 4611686018427387904) (n : Nat) (hn : n = d.size) :
    Calls Try.prog 19 #[.slice (some ⟨blk, 0, none⟩) n cap, .func (.func g) #[] cb] w fun e w' => e = .returned (.tuple #[]) ∧ SrtOkK cfR encR 7 w blk 0 d [] d.toList [] w' := by
  have hc := stableK srtK 7 Try.isAgg32 Try.sizeOf32 encR blk 0 cap d d w w R rfl S cfR g cb eg hcmp woRM n hn hsz
  rw [← hn] at hc
  have HC := Lib.hid hc
  clear hc hcmp R S hn hsz
  go_enter Try.func19, Try.ntmps19
  go_wp2_with (go_at_call 34; refine HC.out.mono ?_; rintro e w1 ⟨rfl, hw1⟩)
  have H := Lib.hid hw1
  clear hw1
  go_wp2
  go_end0
  exact ⟨rfl, H.out⟩

/-- A copy of texts. -/
def CloneS10Ok (ts : List (List UInt8)) (w : World) (e : Ending) (w' : World) : Prop := ∃ A2 c2, e = .returned (.slice A2 ts.length c2) ∧ Lies w' 0 9 A2 (gcells ts) ∧ ts.length ≤ c2 ∧ Below w.heap.size w w'
set_option maxHeartbeats 1000000 in
theorem cloneS10_c {A : Option Addr} {n c : Nat} {ts : List (List UInt8)} {w : World} (h : GL w A ts) (hn : n = ts.length) (hs : n ≤ 1000000000) : Calls Try.prog 40 #[.slice A n c] w (CloneS10Ok ts w) := by
  obtain ⟨i0, hi, hz0, hz1, hz2⟩ := info_parts Try.infoStr9
  have q := fun (w : World) a n c n' c' => Lib.run_eql_slice_nil (P := Try.prog) w 30 9 a n c n' c' Try.underlying30
  have HL := Lib.hid h
  have HN := Lib.hid hn
  clear h hn
  rcases A with _ | ad
  · have h0 : n = 0 := by
      rcases Nat.eq_zero_or_pos n with q | q
      · exact q
      · obtain ⟨ad, _, e, _⟩ := HL.out.at_ (k := 0) (by have := HN.out; omega)
        cases e
    subst h0
    have e : ts = [] := List.length_eq_zero_iff.1 HN.out.symm
    subst e
    go_enter Try.func40, Try.ntmps40
    go_wp2
    go_ret
    exact ⟨_, 0, rfl, Lies.nil, Nat.le_refl _, Below.refl _ _⟩
  · have ho : (w.alloc (.cells #[] 9)).ownsRow w.heap.size 9 1 (.slice (some ⟨w.heap.size, 0, none⟩) 0 0) 0 [] := World.ownsRow_made w #[] 0 (Nat.le_refl _) (by unfold maxLen; omega) rfl
    have HO := Lib.hid ho
    clear ho
    go_enter Try.func40, Try.ntmps40
    go_wp2_with (at_builtin; refine wpList_app _ rfl _ _ 30 rfl w.heap.size 9 i0 _ 1 16 Try.underlying30 hi hz0 hz1 hz2 rfl (by decide) _ 0 [] rfl HO.out (w.alloc (.cells #[] 9)).heap.size _ n c (gcells ts) 0 rfl (by rw [gcells_len, HN.out]; omega) (Lies.stay HL.out ((Below.refl _ _).alloc (Nat.le_refl _) _)) (gcells_one _) (by unfold maxLen; omega) (by omega) (by simp) ?_)
    intro v' w1 hown' hgrow _
    obtain ⟨A2, k2, rfl⟩ := own_slice hown'
    have T1 := app_below HO.out hgrow
    have ho2 : w1.ownsRow w.heap.size 9 1 (.slice A2 n k2) n (gcells ts) := by simpa using hown'
    have HO2 := Lib.hid ho2
    have HT := Lib.hid T1
    clear hown' ho2 T1 hgrow
    go_wp2
    go_ret
    refine ⟨A2, k2, by rw [← HN.out]; simp, lies_own HO2.out, by rw [← HN.out]; exact (own_room HO2.out).2, HT.out⟩
end Go.Proofs.Ytnhpkcphgdkdiaa
