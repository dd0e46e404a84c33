import Derived.Test.YtmcfknnfaokmlaaGreatZ2
import Derived.Test.YtmcfknnfaokmlaaGreatZ7
import Derived.Test.YtmcfknnfaokmlaaGreatZ1
import Derived.Deep.Slices
import Derived.Laws.ShiftsVarLaws
namespace Go.Proofs.YtmcfknnfaokmlaaGreat
set_option maxHeartbeats 16000000
open Go.Lib Go.Proofs.Tryz
set_option linter.unusedSimpArgs false
set_option maxRecDepth 100000
section
namespace Cd
def eZ (k:Nat):Option (List UInt8)→Nat × Option (List UInt8)
 | none=>(0,none)
 | some l=>if k≤l.length then (val (l.take k),some (l.drop k)) else (0,none)
def aS (most:Nat):Option (List UInt8)→Nat × Option (List UInt8)
 | none=>(0,none)
 | some []=>(0,none)
 | some (h :: t) =>
  if h.toNat<128 then (if h.toNat≤most then (h.toNat,some t) else (0,none))
  else if h.toNat - 128≤t.length∧128≤val (t.take (h.toNat - 128))∧wid (val (t.take (h.toNat - 128)))=h.toNat - 128∧val (t.take (h.toNat - 128))≤most
   then (val (t.take (h.toNat - 128)),some (t.drop (h.toNat - 128))) else (0,none)
@[irreducible] def full : Nat := 18446744073709551615
def jg (s:Option (List UInt8)):Nat × Option (List UInt8) :=
 match (eZ 8 s).2 with
 | none=>(0,none)
 | some t=>if Fl.fit (eZ 8 s).1=true then (Fl.wd (eZ 8 s).1,some t) else (0,none)
def bQ (most:Nat) (s:Option (List UInt8)):List UInt8 × Option (List UInt8) :=
 match (aS most s).2 with
 | none=>([],none)
 | some t=>if (aS most s).1≤t.length then (t.take (aS most s).1,some (t.drop (aS most s).1)) else ([],none)
def kz:Option (List UInt8)→Bool × Option (List UInt8)
 | none=>(false,none)
 | some []=>(false,none)
 | some (h :: t)=>if h.toNat≤1 then (h.toNat==1,some t) else (false,none)
structure Pt where
 kind:Int
 n:Int
 i:Int
 f:Nat
 b:List UInt8
 is:Bool
theorem iI {n most:Nat} (h:n<18446744073709551616) (hm:n≤most) (t:List UInt8):aS most (some (num n++t))=(n,some t):=by
 unfold num
 split
 ·have e:(iP n 0).toNat=n:=by rw [fq];simp;omega
  simp only [List.cons_append,List.nil_append,aS,e]
  rw [if_pos (by omega),if_pos hm]
 ·have w:=dZ n
  have e:(UInt8.ofNat (128+wid n)).toNat=128+wid n:=by rw [UInt8.toNat_ofNat'];omega
  have e2:128+wid n - 128=wid n:=by omega
  have e3:(fix n (wid n)++t).take (wid n)=fix n (wid n):=by rw [List.take_append_of_le_length (by rw [aC];exact Nat.le_refl _),List.take_of_length_le (by rw [aC];exact Nat.le_refl _)]
  have e4:(fix n (wid n)++t).drop (wid n)=t:=by
   have:=List.drop_left (l₁:=fix n (wid n)) (l₂:=t)
   rwa [aC] at this
  have e5:val (fix n (wid n))=n:=by rw [iL (by rw [aC];omega),rR (wid_lt h)]
  simp only [List.cons_append,aS,e,e2,e3,e4,e5]
  rw [if_neg (by omega),if_pos ⟨by rw [List.length_append,aC];omega,by omega,trivial,hm⟩]
theorem iJ {n most:Nat} {l t:List UInt8} (h:aS most (some l)=(n,some t)):l=num n++t∧n<18446744073709551616∧n≤most:=by
 match l,h with
 | [],h=>simp [aS] at h
 | b :: r,h =>
  have hb:b.toNat<256:=b.toNat_lt
  simp only [aS] at h
  split at h
  ·split at h
   ·simp only [Prod.mk.injEq,Option.some.injEq] at h
    obtain⟨rfl,rfl⟩:=h
    refine⟨?_,by omega,by assumption⟩
    unfold num
    rw [if_pos (by assumption)]
    simp only [List.cons_append,List.nil_append,List.cons.injEq,and_true]
    unfold iP
    simp
   ·simp at h
  ·split at h
   ·rename_i h1 h2
    simp only [Prod.mk.injEq,Option.some.injEq] at h
    obtain⟨rfl,rfl⟩:=h
    obtain⟨g1,g2,g3,g4⟩:=h2
    refine⟨?_,Eb _,g4⟩
    have w:=dZ (val (r.take (b.toNat - 128)))
    have hl:(r.take (b.toNat - 128)).length=b.toNat - 128:=by rw [List.length_take];omega
    unfold num
    rw [if_neg (by omega),g3,iL (by omega)]
    have e:fix (ev (r.take (b.toNat - 128))) (b.toNat - 128)=r.take (b.toNat - 128):=by
     have:=Cq (r.take (b.toNat - 128));rwa [hl] at this
    rw [e,List.cons_append,List.take_append_drop,show 128+(b.toNat - 128)=b.toNat by omega]
    simp
   ·simp at h
theorem DK {most:Nat} {s:Option (List UInt8)} (h:(aS most s).2=none):(aS most s).1=0:=by
 match s,h with
 | none,_=>rfl
 | some [],_=>rfl
 | some (b :: r),h =>
  simp only [aS] at h ⊢
  split
  ·split
   ·rename_i a c;rw [if_pos a,if_pos c] at h;cases h
   ·rfl
  ·split
   ·rename_i a c;rw [if_neg a,if_pos c] at h;cases h
   ·rfl
theorem b_ (most:Nat) (s:Option (List UInt8)):(aS most s).1<18446744073709551616∧(aS most s).1≤most:=by
 cases hs:(aS most s).2 with
 | none=>rw [DK hs];omega
 | some t =>
  cases s with
  | none=>simp [aS] at hs
  | some l =>
   have:=iJ (n:=(aS most (some l)).1) (t:=t) (l:=l) (most:=most) (by rw [← hs])
   exact⟨this.2.1,this.2.2⟩
theorem rdW_fix {n k:Nat} (hk:k≤8) (h:n<256 ^ k) (t:List UInt8):eZ k (some (fix n k++t))=(n,some t):=by
 have e3:(fix n k++t).take k=fix n k:=by rw [List.take_append_of_le_length (by rw [aC];exact Nat.le_refl _),List.take_of_length_le (by rw [aC];exact Nat.le_refl _)]
 have e4:(fix n k++t).drop k=t:=by
  have:=List.drop_left (l₁:=fix n k) (l₂:=t)
  rwa [aC] at this
 simp only [eZ]
 rw [if_pos (by rw [List.length_append,aC];omega)]
 simp only [e3,e4]
 rw [iL (by rw [aC];omega),rR h]
theorem fix_rdW {n k:Nat} {l t:List UInt8} (hk:k≤8) (h:eZ k (some l)=(n,some t)):l=fix n k++t:=by
 simp only [eZ] at h
 split at h
 ·simp only [Prod.mk.injEq,Option.some.injEq] at h
  obtain⟨rfl,rfl⟩:=h
  have hl:(l.take k).length=k:=by rw [List.length_take];omega
  have e:fix (ev (l.take k)) k=l.take k:=by have:=Cq (l.take k);rwa [hl] at this
  rw [iL (by omega),e,List.take_append_drop]
 ·simp at h
theorem vW {k:Nat} {s:Option (List UInt8)} (h:(eZ k s).2=none):(eZ k s).1=0:=by
 cases s with
 | none=>rfl
 | some l =>
  simp only [eZ] at h ⊢
  split
  ·rename_i a;rw [if_pos a] at h;cases h
  ·rfl
theorem qd (k:Nat) (s:Option (List UInt8)):(eZ k s).1<18446744073709551616:=by
 cases s with
 | none=>simp [eZ]
 | some l =>
  simp only [eZ]
  split
  ·exact Eb _
  ·simp
theorem key_nat (f:Nat):(((Fl.key f).toNat:Nat):Int)=Fl.key f:=Int.toNat_of_nonneg (Fl.eX f).1
theorem key_pow (f:Nat):(Fl.key f).toNat<256 ^ 8:=by
 have h:=Fl.eX f
 have h3:(256:Nat) ^ 8=18446744073709551616:=by decide
 omega
theorem l_ {α β:Type} {x:α × β} {y:β} (h:x.2=y):x=(x.1,y):=by
 obtain⟨a,b⟩:=x
 subst h
 rfl
theorem zS {l t:List UInt8} (h:(jg (some l)).2=some t):l=fix (Fl.key (jg (some l)).1).toNat 8++t∧(jg (some l)).1<18446744073709551616:=by
 unfold jg at h ⊢
 split at h
 ·simp at h
 ·rename_i u hu
  split at h
  ·rename_i hf
   simp only [Option.some.injEq] at h
   subst h
   have q:=fix_rdW (n:=(eZ 8 (some l)).1) (t:=u) (l:=l) (k:=8) (by omega) (l_ hu)
   have lt:=qd 8 (some l)
   have kw:Fl.key (Fl.wd (eZ 8 (some l)).1)=((eZ 8 (some l)).1:Int):=by simpa using Fl.key_wd hf
   simp only [hf,if_true]
   rw [kw,Int.toNat_natCast]
   exact⟨q,Fl.wd_lt _ (by omega) (by omega)⟩
  ·simp at h
theorem rP {m:Nat} {l t:List UInt8} (h:(bQ m (some l)).2=some t):l=num (bQ m (some l)).1.length++(bQ m (some l)).1++t∧(bQ m (some l)).1.length≤m:=by
 unfold bQ at h ⊢
 split at h
 ·simp at h
 ·rename_i u hu
  split at h
  ·rename_i hl
   simp only [Option.some.injEq] at h
   subst h
   have q:=iJ (n:=(aS m (some l)).1) (t:=u) (l:=l) (most:=m) (l_ hu)
   simp only [hl,if_true]
   rw [List.length_take,Nat.min_eq_left hl,List.append_assoc,List.take_append_drop]
   exact⟨q.1,q.2.2⟩
  ·simp at h
theorem rQ {l t:List UInt8} (h:(kz (some l)).2=some t):l=(if (kz (some l)).1=true then 1 else 0) :: t:=by
 match l,h with
 | [],h=>simp [kz] at h
 | b :: r,h =>
  simp only [kz] at h ⊢
  split at h
  ·rename_i hb
   simp only [Option.some.injEq] at h
   subst h
   simp only [hb,if_true]
   rcases (show b.toNat=0∨b.toNat=1 by omega) with e | e
   ·have:b=0:=UInt8.toNat_inj.1 e
    subst this;rfl
   ·have:b=1:=UInt8.toNat_inj.1 e
    subst this;rfl
  ·simp at h
theorem rdG_num (s:Option (List UInt8)):(((aS 1 s).1==1),(aS 1 s).2)=kz s:=by
 match s with
 | none=>rfl
 | some []=>rfl
 | some (b :: r) =>
  have hb:b.toNat<256:=b.toNat_lt
  simp only [aS,kz]
  by_cases h:b.toNat<128
  ·by_cases h1:b.toNat≤1
   ·simp [h,h1]
   ·simp [h,h1]
  ·rw [if_neg h,if_neg (by omega),if_neg (by omega)]
   rfl
end Cd
open Go.RowKit
def zl (T:ByteArray):Bool:=(List.range 255).all fun i=>decide (1≤(T.data.toList.getD (i+1) 0).toNat∧(T.data.toList.getD (i+1) 0).toNat≤8)
theorem tab_at {T:ByteArray} (hT:zl T=true) {i:Nat} (h:i<T.size) (h1:1≤i) (h2:i<256):1≤(T[i]'h).toNat∧(T[i]'h).toNat≤8:=by
 unfold zl at hT
 rw [List.all_eq_true] at hT
 have q:=of_decide_eq_true (hT (i - 1) (by simp;omega))
 rw [show i - 1+1=i by omega] at q
 have e:T.data.toList.getD i 0=T[i]'h:=by
  rw [List.getD_eq_getElem?_getD,List.getElem?_eq_getElem (by simpa using h)]
  rfl
 rwa [e] at q
def Bw (n:Int) (w:World) (e:Ending) (w':World):Prop:=∃ L:Int,e=.returned (.int .i64 L)∧8 * ((Cd.wid n.toNat:Int) - 1)<L∧L≤8 * (Cd.wid n.toNat:Int)∧w=w'
theorem ik {n:Int} {w:World} {T:ByteArray} (hT:zl T=true) (x b:Int) (hi:x.toNat<T.size) (h1:1≤x) (h2:x<256) (hb:0≤b∧b≤56) (hw:8 * ((Cd.wid n.toNat:Int) - 1)=b) {L:Int}
  (hL:L=wrap64 (b+wrap64 ((T[x.toNat]'hi).toNat:Int))):Bw n w (.returned (.int .i64 L)) w:=by
 have q:=tab_at hT hi (by omega) (by omega)
 generalize (T[x.toNat]'hi).toNat=y at *
 refine⟨L,rfl,?_,?_,rfl⟩
 ·subst hL;unfold wrap64;omega
 ·subst hL;unfold wrap64;omega
theorem CV {n:Int} {w:World} {T:ByteArray} (hT:zl T=true) (x:Int) (hi:x.toNat<T.size) (h1:1≤x) (h2:x<256) (hw:Cd.wid n.toNat=1) {L:Int}
  (hL:L=wrap64 (wrap64 ((T[x.toNat]'hi).toNat:Int))):Bw n w (.returned (.int .i64 L)) w :=
 ik hT x 0 hi h1 h2 (by omega) (by omega) (by rw [Int.zero_add];exact hL)
theorem len64_c (n:Int) (w:World) (h0:128≤n) (h1:n<18446744073709551616) :
  Calls prog 98 #[.int .u64 n] w (Bw n w):=by
 have H1:=hid h1
 clear h1
 go_enter func98,ntmps98
 go_wp2
 all_goals
  go_ret
  have h1:=H1.out
 ·exact ik (by decide +kernel) _ 56 _ (by omega) (by omega) (by omega) (by have:=Cd.bO n.toNat;omega) rfl
 ·exact ik (by decide +kernel) _ 48 _ (by omega) (by omega) (by omega) (by have:=Cd.bO n.toNat;omega) rfl
 ·exact ik (by decide +kernel) _ 40 _ (by omega) (by omega) (by omega) (by have:=Cd.bO n.toNat;omega) rfl
 ·exact ik (by decide +kernel) _ 32 _ (by omega) (by omega) (by omega) (by have:=Cd.bO n.toNat;omega) rfl
 ·exact ik (by decide +kernel) _ 24 _ (by omega) (by omega) (by omega) (by have:=Cd.bO n.toNat;omega) rfl
 ·exact ik (by decide +kernel) _ 16 _ (by omega) (by omega) (by omega) (by have:=Cd.bO n.toNat;omega) rfl
 ·exact ik (by decide +kernel) _ 8 _ (by omega) (by omega) (by omega) (by have:=Cd.bO n.toNat;omega) rfl
 ·exact CV (by decide +kernel) _ _ (by omega) (by omega) (by have:=Cd.bO n.toNat;omega) rfl
def hd (n:Nat):Nat:=if n<128 then n else 128+Cd.wid n
theorem yJ (n:Int) (w:World) (h0:0≤n) (h1:n<18446744073709551616) :
  Calls prog 53 #[.int .u64 n] w fun e w'=>e=.returned (.int .u8 (hd n.toNat:Int))∧w=w':=by
 have H1:=hid h1
 clear h1
 have wp:=Cd.dZ n.toNat
 by_cases h:n<128
 ·go_enter func53,ntmps53
  go_wp2
  go_ret
  exact⟨by unfold hd;rw [if_pos (by omega)];go_num,rfl⟩
 ·go_enter func53,ntmps53
  go_wp2_with (go_at_call 98;refine (len64_c _ _ (by omega) H1.out).mono ?_;rintro e w' ⟨L,rfl,l1,l2,rfl⟩)
  go_ret
  exact⟨by unfold hd;rw [if_neg (by omega)];go_num,rfl⟩
theorem jo (n:Int) (w:World) (h0:0≤n) (h:n<128) :
  Calls prog 53 #[.int .u64 n] w fun e w'=>e=.returned (.int .u8 n)∧w=w' :=
 (yJ n w h0 (by omega)).mono fun e w' q=>⟨q.1.trans (by unfold hd;rw [if_pos (by omega),Int.toNat_of_nonneg h0]),q.2⟩
theorem lK (n:Int) (w:World) (h:128≤n) (h1:n<18446744073709551616) :
  Calls prog 53 #[.int .u64 n] w fun e w'=>e=.returned (.int .u8 (128+(Cd.wid n.toNat:Int)))∧w=w' :=
 (yJ n w (by omega) h1).mono fun e w' q=>⟨q.1.trans (by unfold hd;rw [if_neg (by omega)];go_num),q.2⟩
theorem nH (n:Int) (w:World) (h0:0≤n) :
  Calls prog 61 #[.int .u64 n] w fun e w'=>e=.returned (.int .i64 (Cd.wid n.toNat:Int))∧w=w':=by
 go_enter func61,ntmps61
 go_wp2
 refine wp_loop_rounds 8 ?_
 rw [rounds_succ]
 go_wp2
 ·go_ret
  exact⟨az (by have:=Cd.bO n.toNat;omega),rfl⟩
 rw [rounds_succ]
 go_wp2
 ·go_ret
  exact⟨az (by have:=Cd.bO n.toNat;omega),rfl⟩
 rw [rounds_succ]
 go_wp2
 ·go_ret
  exact⟨az (by have:=Cd.bO n.toNat;omega),rfl⟩
 rw [rounds_succ]
 go_wp2
 ·go_ret
  exact⟨az (by have:=Cd.bO n.toNat;omega),rfl⟩
 rw [rounds_succ]
 go_wp2
 ·go_ret
  exact⟨az (by have:=Cd.bO n.toNat;omega),rfl⟩
 rw [rounds_succ]
 go_wp2
 ·go_ret
  exact⟨az (by have:=Cd.bO n.toNat;omega),rfl⟩
 rw [rounds_succ]
 go_wp2
 ·go_ret
  exact⟨az (by have:=Cd.bO n.toNat;omega),rfl⟩
 rw [rounds_succ]
 go_wp2
 go_ret
 exact⟨az (by have:=Cd.bO n.toNat;omega),rfl⟩
end
end Go.Proofs.YtmcfknnfaokmlaaGreat
