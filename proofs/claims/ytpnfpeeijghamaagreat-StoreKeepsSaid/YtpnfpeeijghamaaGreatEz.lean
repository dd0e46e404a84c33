/- Stage 8: a Store beside lists of puts; what a change leaves to a crash. -/
import Derived.Test.YtpnfpeeijghamaaGreatEs
import Derived.Test.YtpnfpeeijghamaaGreatEx
import Derived.Test.YtpnfpeeijghamaaGreatVn
namespace Go.Proofs.YtpnfpeeijghamaaGreat
open Go.RowKit Go.Shelf Go.Maps
set_option maxRecDepth 100000

theorem Lies.keepG {w w' : World} {F : Nat → Prop} {B : Nat} {t : TypeId} {A : Option Addr} {xs : List Value} (h : Lies w B t A xs) (hi : InF F A) (hk : ∀ k, F k → w'.heap[k]? = w.heap[k]?) : Lies w' B t A xs := fun hx => by
  obtain ⟨ad, rfl, hb, hc⟩ := h hx
  have q := hk ad.block (hi ad rfl)
  exact ⟨ad, rfl, hb.imp id (fun ⟨cs, fr, r⟩ => ⟨cs, fr, q.trans r⟩), fun j u hu => (World.cell?_of_block (by rw [addr_block]; exact q)).trans (hc j u hu)⟩

/-- A list of puts that lies apart from a Store, its values in what there was at w0. -/
def WL (w w0 : World) (E G : Nat → Prop) (sp : Nat) (A : Option Addr) (ms : List MPu) (L : List St.KV) : Prop :=
  pus ms = St.puts L ∧ (∀ m ∈ ms, m.fine w0 w0.heap.size 0) ∧ Lies w w.heap.size 0 A (pcells ms) ∧ InF (fun k => ¬ E k ∧ ¬ G k ∧ k ≠ sp ∧ k < w.heap.size) A
section
variable {w w' w0 : World} {B : Nat} {E G V E2 G2 V2 : Nat → Prop} {sp pw q mb : Nat} {s : VS} {d d' : Dk.D} {L L1 M : List St.KV} {over : Bool} {A : Option Addr} {ms : List MPu}
theorem WL.nil : WL w w0 E G sp none [] [] := ⟨rfl, by simp, Lies.nil, InF.none⟩
theorem WL.ul (h : WL w w0 E G sp A ms L) (hb : Below w0.heap.size w0 w) : UL w w.heap.size 0 0 A ms :=
  ⟨h.2.2.1, fun m hm => by
    have z := (h.2.1 m hm).below (Nat.le_refl _) hb
    exact ⟨z.1.more hb.size, z.2⟩⟩
theorem WL.below (h : WL w w0 E G sp A ms L) (hb : Below w.heap.size w w') : WL w' w0 E G sp A ms L :=
  ⟨h.1, h.2.1, (h.2.2.1.below (Nat.le_refl _) hb).more hb.size, h.2.2.2.mono fun _ k => ⟨k.1, k.2.1, k.2.2.1, Nat.lt_of_lt_of_le k.2.2.2 hb.size⟩⟩
theorem WL.step (h : WL w w0 E G sp A ms L) (hs : SStep w w' B E G V E2 G2 V2 sp pw q mb s d L1 over) : WL w' w0 E2 G2 sp A ms L :=
  ⟨h.1, h.2.1, (h.2.2.1.keepG h.2.2.2 (fun k z => hs.but.block k z.2.2.2 (fun e => e.elim z.1 (fun e => e.elim z.2.1 z.2.2.1)))).more hs.but.size,
    h.2.2.2.mono fun k z => ⟨fun e => z.1 (hs.ne k z.2.2.2 e), fun e => z.2.1 (hs.ng k z.2.2.2 e), z.2.2.1, Nat.lt_of_lt_of_le z.2.2.2 hs.but.size⟩⟩
theorem WL.disk (h : WL w w0 E G sp A ms L) (hs : CStep w w' B G G2 q d') (hb : Below w0.heap.size w0 w') : UL w' w'.heap.size 0 0 A ms :=
  ⟨(h.2.2.1.keepG h.2.2.2 (fun k z => hs.but.block k z.2.2.2 z.2.1)).more hs.but.size, fun m hm => by
    have z := (h.2.1 m hm).below (Nat.le_refl _) hb
    exact ⟨z.1.more hb.size, z.2⟩⟩
theorem WL.hap {e : Ending} {B0 : Nat} (h : WL w w0 E G sp A ms L) (hs : SS w B0 E G V sp pw q mb s d L1 over) (hp : HapOk (fun m => m.fine w0 w0.heap.size 0) A M w e w') :
    ∃ A2 ms2 c2, e = .returned (.slice A2 ms2.length c2) ∧ WL w' w0 E G sp A2 ms2 M ∧ Below w.heap.size w w' := by
  obtain ⟨A2, ms2, c2, he, h1, h2, h3, h4, hb⟩ := hp
  refine ⟨A2, ms2, c2, he, ⟨h1, h3, h2.1, ?_⟩, hb⟩
  rcases h4 with e | e
  · rw [e]
    exact h.2.2.2.mono fun _ k => ⟨k.1, k.2.1, k.2.2.1, Nat.lt_of_lt_of_le k.2.2.2 hb.size⟩
  · exact e.mono fun k z => ⟨fun e => by have := hs.ws.x.eo k e; omega, fun e => by have := hs.ws.x.go k e; omega, fun e => by have := lt_of_block hs.st; omega, z.2⟩
/-- A deed of the disk's own. -/
theorem SS.disk (h : SS w B E G V sp pw q mb s d L over) (hs : CStep w w' B G G2 q d') (hl : d'.s.length = d.s.length) : SStep w w' B E G V E G2 V sp pw q mb s d' L over := by
  have c := h.ws.disk hs hl
  obtain ⟨D, hk⟩ := h.km
  have lsp := lt_of_block h.st
  have lmb := hk.own.lt
  refine ⟨⟨c.cs, (hs.but.block sp lsp h.sb.2.2).trans h.st, ⟨D, hk.keep (hs.but.block mb lmb h.mm.2.2) (fun k v _ => hs.but.block k (h.vb k v).1 (h.vb k v).2.2.2.1) hs.below.size⟩, fun k v => ?_, ?_, ?_⟩, fun _ _ z => z, hs.new, fun _ _ z => z, hs.but.mono (Nat.le_refl _) (fun _ z => .inr (.inl z)), hs.below⟩
  · obtain ⟨v1, v2, v3, v4, v5⟩ := h.vb k v
    exact ⟨Nat.lt_of_lt_of_le v1 hs.below.size, v2, v3, fun g => v4 (hs.new k v1 g), v5⟩
  · exact ⟨h.sb.1, h.sb.2.1, fun g => h.sb.2.2 (hs.new sp lsp g)⟩
  · exact ⟨h.mm.1, h.mm.2.1, fun g => h.mm.2.2 (hs.new mb lmb g)⟩
end

/-- What a crash leaves, whatever it lets through. -/
def After8 (d : Dk.D) (er : Int) (L Ln : List St.KV) : Prop :=
  d.ok ∧ d.cache.length ≤ 1000 ∧ ∀ ks, ∃ g h l M, Wl.Good (Dk.crash d ks) g h l ∧ Wl.Idle (Dk.crash d ks) ∧ l ≠ [] ∧ l.length ≤ 100 ∧ St.opn [] l = some M ∧ ((M = L ∧ er ≠ 0) ∨ M = Ln)
/-- What a change leaves, on a disk that may be armed. -/
def KOk (w : World) (B : Nat) (E G V : Nat → Prop) (sp pw q : Nat) (L Ln : List St.KV) (e : Ending) (w' : World) : Prop :=
  ∃ (er : Int) (E2 G2 V2 : Nat → Prop) (mb2 : Nat) (s2 : VS) (d2 : Dk.D) (L3 : List St.KV) (ov : Bool), e = .returned (.int .i64 er) ∧ (er = 0 ∨ er = 50) ∧ SStep w w' B E G V E2 G2 V2 sp pw q mb2 s2 d2 L3 ov ∧ After8 d2 er L Ln

theorem arm_left (d : Dk.D) {n : Int} (h : n ≤ 9223372036854775807) : -1 ≤ (Dk.arm d n).left ∧ (Dk.arm d n).left ≤ 9223372036854775807 := by
  constructor
  · show -1 ≤ (if 0 ≤ n then n else -1); split <;> omega
  · show (if 0 ≤ n then n else -1) ≤ _; split <;> omega
theorem crash_still {d : Dk.D} (i : Wl.Idle d) (n : Int) (ks : List Bool) : (Dk.crash (Dk.arm d n) ks).s = d.s := by
  show Dk.keepSome d.s d.cache ks = d.s
  rw [i.cache]
  rfl

theorem commit8k_c {w : World} {B B' : Nat} {E G V : Nat → Prop} {sp pw q mb : Nat} {s : VS} {d : Dk.D} {L : List St.KV} {A : Option Addr} {nl c : Nat} {ms : List MPu} {tp tb : TypeId} {j : Nat} {n : Int} (h : SS w B E G V sp pw q mb s (Dk.arm d n) L false) (hB : B ≤ w.heap.size) (hv : Live8 j s d L) (hj : j ≤ 12) (hn : d.s.length = 1000)
    (hu : UL w B' tp tb A ms) (hl : nl = ms.length) (hf : Few8 (pus ms)) (ha : n ≤ 9223372036854775807) :
    Calls Tryz.prog 16 #[.pointer (some ⟨sp, 0, none⟩), .slice A nl c] w (KOk w B E G V sp pw q L (St.hap L (pus ms))) := by
  have rg : Wl.ring (Dk.arm d n) = 998 := by unfold Wl.ring; show d.s.length - 2 = _; rw [hn]
  have rg0 : Wl.ring d = 998 := by unfold Wl.ring; rw [hn]
  obtain ⟨a1, a2⟩ := arm_left d ha
  have id := hv.idle.arm n
  have cn := hv.cnt
  rcases Nat.eq_zero_or_pos ms.length with h0 | h0
  · have e0 : ms = [] := List.length_eq_zero_iff.1 h0
    subst e0
    obtain rfl : nl = 0 := hl
    refine commit_empty.mono ?_
    rintro e w' ⟨rfl, rfl⟩
    refine ⟨0, E, G, V, mb, s, Dk.arm d n, L, false, rfl, .inl rfl, SStep.refl h, id.ok, by rw [id.cache]; exact Nat.zero_le _, fun ks => ⟨s.g, s.h, s.l, L, hv.good.reach (crash_still hv.idle n ks), Wl.crash_idle id.ok id.bad ks, hv.ne, by omega, hv.opn, .inr rfl⟩⟩
  · obtain ⟨f1, f2, f3, f4, f5⟩ := hv.fit hf hj (by rw [rg0]; omega)
    have nm := hv.num
    have nd := hf.need false
    have gr := hv.good.reach (d' := Dk.arm d n) rfl
    have z := commit_c (c := c) h hB hv.over id.ok a2 (by rw [id.cache]; decide) (U64.of (by have := hv.gen; omega)) (U64.of (by rw [hv.head, needs1]; have := hv.sum; omega)) gr.len hu hl h0 (by have := hf.1; rw [pus_len] at this; omega)
      (fun m hm => by have := hf.2 m.p (List.mem_map.2 ⟨m, hm, rfl⟩); omega) rfl f4 f5 (by omega) rfl rfl f2 f3 (by rw [rg]; rw [rg0] at f1; exact f1)
    have hr : Wl.roomE (Wl.ring (Dk.arm d n) - Wl.needs s.l) [St.bts false (pus ms)] = 0 := Wl.roomE_ok (by simpa using f2) (by rw [needs1, rg]; rw [rg0] at f1; omega)
    have ve := vchg_err (gone := 0) (d := Dk.arm d n) hv.over hr gr.len
    obtain ⟨er, s2, d2, hy, hE⟩ := vchg_good (m := [St.bts false (pus ms)]) false hv.over id a1 gr (by have := hv.gen; omega) (by rw [hv.head, needs1]; have := hv.sum; omega)
    have hy' : vchg s (Dk.arm d n) 0 [St.bts false (pus ms)] = (er, s2, d2) := hy
    rw [hy'] at z ve
    refine z.mono ?_
    rintro e w' ⟨rfl, E2, G2, V2, mb2, st⟩
    refine ⟨er, E2, G2, V2, mb2, s2, d2, _, _, rfl, ve, st, hE.1, ?_, fun ks => ?_⟩
    · have q := hE.2.2.2.2.1
      rw [needs1] at q
      omega
    · obtain ⟨g2, h2, l2, k1, k2, k3, _⟩ := Ends.after hE ks
      rcases k3 with ⟨k3, k4⟩ | k3
      · exact ⟨g2, h2, l2, L, k1, k2, by rw [k3]; exact hv.ne, by rw [k3]; omega, by rw [k3]; exact hv.opn, .inl ⟨rfl, k4⟩⟩
      · have e2 : l2 = s.l ++ [St.bts false (pus ms)] := k3
        exact ⟨g2, h2, l2, _, k1, k2, by rw [e2]; simp, by rw [e2, List.length_append, List.length_singleton]; omega, by rw [e2]; exact St.opn_add hv.opn (by have := hf.1; omega) (fun p hp => by have := hf.2 p hp; omega), .inr rfl⟩

theorem compact8k_c {w : World} {B : Nat} {E G V : Nat → Prop} {sp pw q mb : Nat} {s : VS} {d : Dk.D} {L : List St.KV} {j : Nat} {n : Int} (h : SS w B E G V sp pw q mb s (Dk.arm d n) L false) (hB : B ≤ w.heap.size) (hv : Live8 j s d L) (hj : j ≤ 12) (hn : d.s.length = 1000) (ha : n ≤ 9223372036854775807) :
    Calls Tryz.prog 19 #[.pointer (some ⟨sp, 0, none⟩)] w (KOk w B E G V sp pw q L L) := by
  have rg : Wl.ring (Dk.arm d n) = 998 := by unfold Wl.ring; show d.s.length - 2 = _; rw [hn]
  obtain ⟨a1, a2⟩ := arm_left d ha
  have id := hv.idle.arm n
  have cn := hv.cnt
  have nm := hv.num
  have sm := hv.sum
  have gr := hv.good.reach (d' := Dk.arm d n) rfl
  obtain ⟨f1, f2⟩ := whole_len hv.sml nm (by omega)
  obtain ⟨b2, hb2⟩ : ∃ b, b = St.bts true (St.puts L) := ⟨_, rfl⟩
  rw [← hb2] at f1 f2
  have hf : Wl.need b2 ≤ Wl.ring (Dk.arm d n) - Wl.needs s.l := by rw [rg]; omega
  have z := compact_c h hB hv.over id.ok a2 (by rw [id.cache]; decide) (U64.of (by have := hv.gen; omega)) (U64.of (by rw [hv.head, needs1]; omega)) gr.len (fun x hx => by have := hv.sml x hx; omega) (by omega) hb2.symm (by omega) hf
  have hr : Wl.roomE (Wl.ring (Dk.arm d n) - Wl.needs s.l) [b2] = 0 := Wl.roomE_ok (by simpa using (by omega)) (by rw [needs1]; omega)
  have ve := vchg_err (gone := s.l.length) (d := Dk.arm d n) hv.over hr gr.len
  obtain ⟨er, s2, d2, hy, hE⟩ := vchg_good (m := [b2]) true hv.over id a1 gr (by have := hv.gen; omega) (by rw [hv.head, needs1]; omega)
  have hy' : vchg s (Dk.arm d n) s.l.length [b2] = (er, s2, d2) := hy
  rw [hy'] at z ve
  refine z.mono ?_
  rintro e w' ⟨rfl, E2, G2, V2, mb2, st⟩
  refine ⟨er, E2, G2, V2, mb2, s2, d2, _, _, rfl, ve, st, hE.1, ?_, fun ks => ?_⟩
  · have q := hE.2.2.2.2.1
    rw [needs1] at q
    omega
  · obtain ⟨g2, h2, l2, k1, k2, k3, _⟩ := Ends.after hE ks
    rcases k3 with ⟨k3, k4⟩ | k3
    · exact ⟨g2, h2, l2, L, k1, k2, by rw [k3]; exact hv.ne, by rw [k3]; omega, by rw [k3]; exact hv.opn, .inr rfl⟩
    · have e2 : l2 = [b2] := k3
      exact ⟨g2, h2, l2, L, k1, k2, by rw [e2]; simp, by rw [e2]; simp, by rw [e2, hb2]; exact St.opn_all hv.srt (by omega) (fun x hx => by have := hv.sml x hx; omega), .inr rfl⟩
end Go.Proofs.YtpnfpeeijghamaaGreat
