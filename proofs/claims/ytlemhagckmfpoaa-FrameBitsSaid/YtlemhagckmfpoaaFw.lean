/- Contract of the document's own Frames. -/
import Derived.Test.YtlemhagckmfpoaaFv
import Derived.Test.YtlemhagckmfpoaaTx
namespace Go.Proofs.Ytlemhagckmfpoaa
open Go.RowKit

theorem Try.infoBytes : (Try.prog.info? 22).map (fun i => (i.zero, i.size, i.bytes)) = some (some (.slice none 0 0), 1, 24) := by kernel_rfl

/-- It returned texts that lie below block B or in blocks of texts and of bytes, and left all older memory alone. -/
def TextsOk (B : Nat) (l : List (List UInt8)) (w : World) (e : Ending) (w' : World) : Prop :=
  ∃ (ms : List MTx) (A : Option Addr) (n c : Nat), e = .returned (.slice A n c) ∧ n = ms.length ∧ n ≤ c ∧ TL w' B 22 5 A ms ∧ txs ms = l ∧ Below w.heap.size w w'
def lenOf : Value → Nat
  | .slice _ n _ => n
  | _ => 0

set_option maxHeartbeats 2000000 in
theorem frames_c {A : Option Addr} {n c : Nat} {l : List UInt8} {w : World} {B : Nat} {t : TypeId} (hL : Lies w B t A (bcells l)) (hn : n = l.length) (hc : n ≤ c) (hs : n ≤ 1000000000) :
    Calls Try.prog 15 #[.slice A n c] w (TextsOk w.heap.size (Fr.all l) w) := by
  have HL := Lib.hid (hL.old (t' := 5))
  have HN := Lib.hid hn
  clear hL hn
  obtain ⟨ti, hi, iz0, iz1, iz2⟩ := info_parts Try.infoBytes
  go_enter Try.func15, Try.ntmps15
  go_wp2_with fail
  go_loopw [0, 3] (fun s o wr => ∃ (A1 Ao : Option Addr) (n1 c1 co : Nat) (t : List UInt8) (ms : List MTx), s = .slice A1 n1 c1 ∧ n1 = t.length ∧ n1 ≤ c1 ∧ n1 + 7 * ms.length ≤ n ∧ Lies wr w.heap.size 5 A1 (bcells t) ∧ o = .slice Ao ms.length co ∧
      wr.ownsRow w.heap.size 22 1 (.slice Ao ms.length co) ms.length (tcells ms) ∧ (∀ m ∈ ms, m.fine wr w.heap.size 5) ∧ txs ms ++ Fr.all t = Fr.all l ∧ Below w.heap.size w wr) (fun s _ _ => lenOf s)
  case atStart => exact ⟨A, none, n, c, 0, l, [], rfl, HN.out, hc, by simp, HL.out, rfl, World.ownsRow_nil _ _ _ _, by simp, rfl, Below.refl _ _⟩
  case round =>
    obtain ⟨A1, Ao, n1, c1, co, t, ms, rfl, hn1, hc1, hsz, hl1, rfl, ho, hfine, hall, hb⟩ := hrel
    have HN1 := Lib.hid hn1
    have HL1 := Lib.hid hl1
    have HO := Lib.hid ho
    have HFI := Lib.hid hfine
    have HA := Lib.hid hall
    have HB := Lib.hid hb
    have hz := hb.size
    clear hn1 hl1 ho hfine hall hb
    cases hu : Fr.unf t with
    | none =>
      have HU := Lib.hid hu
      clear hu
      go_wp2_with fail
      refine (unframe_c HL1.out hz HN1.out hc1 (by omega)).mono ?_
      rw [HU.out]
      rintro e w1 ⟨Ab, nb, cb, k, er, rfl, hb1, hcb, _, hbad⟩
      obtain ⟨rfl, rfl, rfl⟩ := hbad rfl
      have HB1 := Lib.hid (HB.out.trans (hb1.mono hz))
      have HO1 := Lib.hid (own_below HO.out hb1)
      have HF1 := Lib.hid (fun m hm => (HFI.out m hm).below hz hb1)
      clear hb1
      have hall := HA.out
      rw [Fr.all_none HU.out, List.append_nil] at hall
      have HALL := Lib.hid hall
      clear hall
      go_wp2
      go_ret
      exact ⟨ms, Ao, _, co, rfl, rfl, (own_room HO1.out).2, ⟨Lies.of_own HO1.out, HF1.out⟩, HALL.out, HB1.out⟩
    | some b =>
      have HU := Lib.hid hu
      have hlen := Fr.unf_some hu
      have l2 := hlen.2.1
      have l3 := hlen.2.2
      rw [← HN1.out] at l3
      clear hu hlen
      go_wp2_with fail
      refine (unframe_c HL1.out hz HN1.out hc1 (by omega)).mono ?_
      rw [HU.out]
      rintro e w1 ⟨Ab, nb, cb, k, er, rfl, hb1, hcb, hgood, _⟩
      obtain ⟨rfl, hlb, rfl, rfl⟩ := hgood b rfl
      have HB1 := Lib.hid (HB.out.trans (hb1.mono hz))
      have HO1 := Lib.hid (own_below HO.out hb1)
      have HF1 := Lib.hid (fun m hm => (HFI.out m hm).below hz hb1)
      have HL2 := Lib.hid (HL1.out.below hz hb1)
      have HLB := Lib.hid hlb
      have hz1 := hb1.size
      clear hb1 hlb hgood
      go_wp2_with (at_builtin; refine wpList_app _ rfl _ _ 34 rfl w.heap.size 22 ti (.slice none 0 0) 1 24 Try.underlying34 hi iz0 iz1 iz2 rfl (by decide) _ ms.length (tcells ms) rfl (HO1.out.alloc _) 0 _ 1 1 (tcells [⟨b, Ab, cb⟩]) 22 rfl rfl (lies_text (m := ⟨b, Ab, cb⟩)) (tcells_one _) (by unfold maxLen; omega) (by omega) (by simp; omega) ?_)
      intro v' w2 hown hgrow _
      obtain ⟨A2, k2, rfl⟩ := own_slice hown
      have T2 := tapp_step (HO1.out.alloc _) hgrow (by simp; omega)
      have HT2 := Lib.hid T2
      have O2 := Lib.hid hown
      clear hown hgrow T2
      go_wp2
      go_roundw
      case rel =>
        have keep : ∀ {m : MTx}, m.fine w1 w.heap.size 5 → m.fine w2 w.heap.size 5 := fun {m} hm => ⟨(hm.1.alloc (by omega) _).tch HT2.out (by decide), hm.2⟩
        refine ⟨_, A2, _, _, k2, t.drop (7 + b.length), ms ++ [⟨b, Ab, cb⟩], rfl, by rw [List.length_drop, HN1.out], by omega, by simp; omega, ?_, by simp, ?_, ?_, ?_, ?_⟩
        · have q := (((HL2.out.cut (7 + b.length) c1 (by rw [bcells_len, ← HN1.out]; exact hc1)).alloc (by omega) (.cells #[MTx.cell ⟨b, Ab, cb⟩] 22)).tch HT2.out (by decide))
          rw [bcells_drop] at q
          exact q
        · rw [tcells_snoc]
          simpa [tcells] using O2.out
        · intro m hm
          rw [List.mem_append, List.mem_singleton] at hm
          rcases hm with hm | rfl
          · exact keep (HF1.out m hm)
          · exact keep ⟨HLB.out, hcb⟩
        · rw [txs_snoc, ← HA.out, Fr.all_some HU.out, List.append_assoc]
          rfl
        · exact ((HB1.out.alloc (by omega) _).trans HT2.out.below)
      case measure => simp [lenOf]; omega
end Go.Proofs.Ytlemhagckmfpoaa
