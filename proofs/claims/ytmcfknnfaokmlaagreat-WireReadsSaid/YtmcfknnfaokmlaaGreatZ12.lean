import Derived.Test.YtmcfknnfaokmlaaGreatZ10
import Derived.Test.YtmcfknnfaokmlaaGreatZ11
namespace Go.Proofs.YtmcfknnfaokmlaaGreat
set_option maxHeartbeats 16000000
open Go.Lib Go.Proofs.Tryz
set_option linter.unusedSimpArgs false
set_option maxRecDepth 100000
section
section
open Go.RowKit Go.Lib
namespace T9
def tc (c:UInt8):Bool:=decide (32≤c.toNat∧c.toNat≤126)
def gc (c:UInt8):Bool:=decide ((97≤c.toNat∧c.toNat≤122)∨(48≤c.toNat∧c.toNat≤57)∨c.toNat=45)
def title (l:List UInt8):Bool:=decide (1≤l.length∧l.length≤60) && l.all tc
def tag (l:List UInt8):Bool:=decide (1≤l.length∧l.length≤16) && l.all gc
end T9
theorem yo {l:List UInt8} {s:ByteArray} (hs:s=str l):s.size=l.length∧∀ (n:Nat) (h:n<s.size),((s[n]'h).toNat:Int)=((l[n]!).toNat:Int):=by
 subst hs
 refine⟨rfl,fun n h=>?_⟩
 have h':n<l.length:=h
 rw [getElem!_pos l n h']
 rfl
theorem oM {p:UInt8→Bool} {l:List UInt8} {i:Nat} (hi:i<l.length):(l.take (i+1)).all p=((l.take i).all p && p l[i]!):=by
 rw [List.take_succ_eq_append_getElem hi,List.all_append,getElem!_pos l i hi]
 simp
theorem wM (c:UInt8) (w:World):Calls prog 107 #[.int .u8 (c.toNat:Int)] w fun e w'=>e=.returned (.bool (T9.tc c))∧w=w':=by
 have hc:=c.toNat_lt
 go_enter func107,ntmps107
 go_wp2
 all_goals
  go_ret
  exact⟨aj (by unfold T9.tc;rw [Bool.eq_iff_iff];simp;try omega),rfl⟩
theorem AO (c:UInt8) (w:World):Calls prog 145 #[.int .u8 (c.toNat:Int)] w fun e w'=>e=.returned (.bool (T9.gc c))∧w=w':=by
 have hc:=c.toNat_lt
 go_enter func145,ntmps145
 go_wp2
 all_goals
  go_ret
  exact⟨aj (by unfold T9.gc;rw [Bool.eq_iff_iff];simp;try omega),rfl⟩
theorem vE {f:Nat} {p:UInt8→Bool} (hf:∀ (c:UInt8) (w:World),Calls prog f #[.int .u8 (c.toNat:Int)] w fun e w'=>e=.returned (.bool (p c))∧w=w')
  (eg:∀ args w,(callFunc f args).run prog w=.ok (.enter f args) w) (l:List UInt8) (hl:l.length≤1000000) (k:Nat) (w:World) :
  Calls prog 106 #[.string (str l),.int .i64 (k:Int),.func (.func f) #[] #[]] w fun e w'=>e=.returned (.bool (decide (1≤l.length∧l.length≤k) && l.all p))∧w=w':=by
 obtain⟨s,hs⟩:∃ s,s=str l:=⟨_,rfl⟩
 obtain⟨sz,hb⟩:=yo hs
 rw [← hs]
 clear hs
 have SZ:=hid sz
 by_cases h0:1≤l.length∧l.length≤k
 ·have k1:¬ s.size=0:=by omega
  have k2:(s.size:Int)≤(k:Int):=by omega
  have k3:¬ ((k:Int)<(s.size:Int)):=by omega
  have H0:=hid h0
  have sm:s.size≤1000000:=by omega
  clear sz h0 hl
  go_enter func106,ntmps106
  go_wp2
  go_loopw [19] (fun s19 wr=>∃ i:Nat,s19=.int .i64 i∧i≤s.size∧Hid ((l.take i).all p=true)∧w=wr) (fun s19 _=>s.size - (intOf s19).toNat)
  case atStart=>exact⟨0,rfl,Nat.zero_le _,hid (by simp),rfl⟩
  case round =>
   obtain⟨i,rfl,hi,ha,rfl⟩:=hrel
   by_cases hlt:i<s.size
   ·have hltz:(i:Int)<(s.size:Int):=by omega
    have hit:=hid (oM (p:=p) (l:=l) (i:=i) (by have:=SZ.out;omega))
    have ba:=hb i hlt
    obtain⟨x,hx⟩:∃ x,x=l[i]!:=⟨_,rfl⟩
    rw [← hx] at hit ba
    clear hx
    have hc:=hf x
    cases hp:p x with
    | true =>
     rw [hp] at hc
     have HP:=hid hp
     clear hp hb hf
     go_wp2_with fail
     refine (hc _).mono ?_
     rintro e w' ⟨rfl,rfl⟩
     go_wp2
     go_roundw
     case rel=>exact⟨i+1,by go_num,by omega,hid (by rw [hit.out,ha.out,HP.out];rfl),by simp⟩
     case measure=>simp [intOf];omega
    | false =>
     rw [hp] at hc
     have HP:=hid hp
     clear hp hb hf
     go_wp2_with fail
     refine (hc _).mono ?_
     rintro e w' ⟨rfl,rfl⟩
     go_wp2
     go_ret
     refine⟨aj ?_,rfl⟩
     have:l.all p=false:=by
      rw [← List.take_append_drop (i+1) l,List.all_append,hit.out,HP.out]
      simp
     rw [this]
     simp
   ·obtain rfl:i=s.size:=by omega
    have hltz:¬ ((s.size:Int)<(s.size:Int)):=by omega
    go_wp2
    go_ret
    refine⟨aj ?_,rfl⟩
    have h1:=ha.out
    rw [SZ.out,List.take_length] at h1
    rw [h1]
    simp [H0.out]
 ·have H0:=hid h0
  have R:(decide (1≤l.length∧l.length≤k) && l.all p)=false:=by simp [h0]
  rw [R]
  by_cases h1:s.size=0
  ·have k1:((s.size:Int)==0)=true:=by simp [h1]
   clear sz h0 hl R h1
   go_enter func106,ntmps106
   go_wp2
   go_ret
   exact⟨rfl,rfl⟩
  ·have k1:((s.size:Int)==0)=false:=by simp [h1]
   have k2:((k:Int)<(s.size:Int)):=by omega
   clear sz h0 hl R
   go_enter func106,ntmps106
   go_wp2
   go_ret
   exact⟨rfl,rfl⟩
theorem kr (l:List UInt8) (hl:l.length≤1000000) (w:World):Calls prog 72 #[.string (str l)] w fun e w'=>e=.returned (.bool (T9.title l))∧w=w':=by
 have T:Calls prog 106 #[.string (str l),.int .i64 ((60:Nat):Int),.func (.func 107) #[] #[]] w fun e w'=>e=.returned (.bool (T9.title l))∧w=w':=vE wM (by intro args w;rfl) l hl 60 w
 obtain⟨b,hb⟩:∃ b,b=T9.title l:=⟨_,rfl⟩
 rw [← hb] at T ⊢
 go_enter func72,ntmps72
 go_wp2_with (go_at_call 106;refine T.mono ?_;rintro e w' ⟨rfl,rfl⟩)
 go_ret
 exact⟨aj hb.symm,rfl⟩
theorem wI (l:List UInt8) (hl:l.length≤1000000) (w:World):Calls prog 132 #[.string (str l)] w fun e w'=>e=.returned (.bool (T9.tag l))∧w=w':=by
 have T:Calls prog 106 #[.string (str l),.int .i64 ((16:Nat):Int),.func (.func 145) #[] #[]] w fun e w'=>e=.returned (.bool (T9.tag l))∧w=w':=vE AO (by intro args w;rfl) l hl 16 w
 obtain⟨b,hb⟩:∃ b,b=T9.tag l:=⟨_,rfl⟩
 rw [← hb] at T ⊢
 go_enter func132,ntmps132
 go_wp2_with (go_at_call 106;refine T.mono ?_;rintro e w' ⟨rfl,rfl⟩)
 go_ret
 exact⟨aj hb.symm,rfl⟩
theorem gY (l:List UInt8) (hl:l.length≤1000000) (w:World):Calls prog 76 #[.string (str l)] w fun e w'=>e=.returned (.bool (T9.title l))∧w=w':=by
 obtain⟨s,hs⟩:∃ s,s=str l:=⟨_,rfl⟩
 obtain⟨sz,hb⟩:=yo hs
 rw [← hs]
 clear hs
 have SZ:=hid sz
 have HB:=hid hb
 have sm:s.size≤1000000:=by omega
 clear sz hl hb
 go_enter func76,ntmps76
 go_wp2
 go_loopw [3] (fun s3 wr=>∃ i:Nat,s3=.int .i64 i∧i≤s.size∧Hid ((l.take i).all T9.tc=true)∧w=wr) (fun s3 _=>s.size - (intOf s3).toNat)
 case atStart=>exact⟨0,rfl,Nat.zero_le _,hid (by simp),rfl⟩
 case round =>
  obtain⟨i,rfl,hi,ha,rfl⟩:=hrel
  by_cases hlt:i<s.size
  ·have hltz:(i:Int)<(s.size:Int):=by omega
   have hit:=hid (oM (p:=T9.tc) (l:=l) (i:=i) (by have:=SZ.out;omega))
   have ba:=HB.out i hlt
   obtain⟨x,hx⟩:∃ x,x=l[i]!:=⟨_,rfl⟩
   rw [← hx] at hit ba
   clear hx
   have W:(32≤x.toNat∧x.toNat≤126)↔T9.tc x=true:=by unfold T9.tc;simp
   by_cases hp:32≤x.toNat∧x.toNat≤126
   ·have HP:=hid (W.1 hp)
    have p1:¬ ((x.toNat:Int)<32):=by omega
    have p2:¬ ((126:Int)<(x.toNat:Int)):=by omega
    clear W hp
    go_wp2
    go_roundw
    case rel=>exact⟨i+1,by go_num,by omega,hid (by rw [hit.out,ha.out,HP.out];rfl),by simp⟩
    case measure=>simp [intOf];omega
   ·have HP:=hid (show T9.tc x=false by rw [← Bool.not_eq_true];exact fun q=>hp (W.2 q))
    have R:T9.title l=false:=by
     have:l.all T9.tc=false:=by
      rw [← List.take_append_drop (i+1) l,List.all_append,hit.out,HP.out]
      simp
     unfold T9.title
     rw [this]
     simp
    have RH:=hid R
    by_cases p1:(x.toNat:Int)<32
    ·clear W hp R
     go_wp2
     go_ret
     exact⟨aj RH.out.symm,rfl⟩
    ·have p2:(126:Int)<(x.toNat:Int):=by omega
     clear W hp R
     go_wp2
     go_ret
     exact⟨aj RH.out.symm,rfl⟩
  ·obtain rfl:i=s.size:=by omega
   have hltz:¬ ((s.size:Int)<(s.size:Int)):=by omega
   have h1:=ha.out
   rw [SZ.out,List.take_length] at h1
   have HA:=hid h1
   clear ha h1
   go_wp2
   all_goals
    go_ret
    exact⟨aj (by unfold T9.title;rw [HA.out];have:=SZ.out;rw [Bool.eq_iff_iff];simp;omega),rfl⟩
theorem mq (l:List UInt8) (hl:l.length≤1000000) (w:World):Calls prog 75 #[.string (str l)] w fun e w'=>e=.returned (.bool (T9.tag l))∧w=w':=by
 obtain⟨s,hs⟩:∃ s,s=str l:=⟨_,rfl⟩
 obtain⟨sz,hb⟩:=yo hs
 rw [← hs]
 clear hs
 have SZ:=hid sz
 have HB:=hid hb
 have sm:s.size≤1000000:=by omega
 clear sz hl hb
 go_enter func75,ntmps75
 go_wp2
 go_loopw [3] (fun s3 wr=>∃ i:Nat,s3=.int .i64 i∧i≤s.size∧Hid ((l.take i).all T9.gc=true)∧w=wr) (fun s3 _=>s.size - (intOf s3).toNat)
 case atStart=>exact⟨0,rfl,Nat.zero_le _,hid (by simp),rfl⟩
 case round =>
  obtain⟨i,rfl,hi,ha,rfl⟩:=hrel
  by_cases hlt:i<s.size
  ·have hltz:(i:Int)<(s.size:Int):=by omega
   have hit:=hid (oM (p:=T9.gc) (l:=l) (i:=i) (by have:=SZ.out;omega))
   have ba:=HB.out i hlt
   obtain⟨x,hx⟩:∃ x,x=l[i]!:=⟨_,rfl⟩
   rw [← hx] at hit ba
   clear hx
   have W:((97≤x.toNat∧x.toNat≤122)∨(48≤x.toNat∧x.toNat≤57)∨x.toNat=45)↔T9.gc x=true:=by unfold T9.gc;rw [decide_eq_true_iff]
   rcases (by omega:x.toNat<45∨x.toNat=45∨(45<x.toNat∧x.toNat<48)∨(48≤x.toNat∧x.toNat≤57)∨(57<x.toNat∧x.toNat<97)∨(97≤x.toNat∧x.toNat≤122)∨122<x.toNat) with k | k | k | k | k | k | k
   ·have p1:(x.toNat:Int)<97:=by omega
    have p3:(x.toNat:Int)<48:=by omega
    have p5:((x.toNat:Int)==45)=false:=by simp;omega
    have HP:Hid (T9.gc x=false):=hid (by rw [← Bool.not_eq_true];exact fun q=>absurd (W.2 q) (by omega))
    have R:T9.tag l=false:=by
     have:l.all T9.gc=false:=by
      rw [← List.take_append_drop (i+1) l,List.all_append,hit.out,HP.out]
      simp
     unfold T9.tag
     rw [this]
     simp
    have RH:=hid R
    clear W k R
    go_wp2
    go_ret
    exact⟨aj RH.out.symm,rfl⟩
   ·have p1:(x.toNat:Int)<97:=by omega
    have p3:(x.toNat:Int)<48:=by omega
    have p5:((x.toNat:Int)==45)=true:=by simp;omega
    have HP:=hid (W.1 (by omega))
    clear W k
    go_wp2
    go_roundw
    case rel=>exact⟨i+1,by go_num,by omega,hid (by rw [hit.out,ha.out,HP.out];rfl),by simp⟩
    case measure=>simp [intOf];omega
   ·have p1:(x.toNat:Int)<97:=by omega
    have p3:(x.toNat:Int)<48:=by omega
    have p5:((x.toNat:Int)==45)=false:=by simp;omega
    have HP:Hid (T9.gc x=false):=hid (by rw [← Bool.not_eq_true];exact fun q=>absurd (W.2 q) (by omega))
    have R:T9.tag l=false:=by
     have:l.all T9.gc=false:=by
      rw [← List.take_append_drop (i+1) l,List.all_append,hit.out,HP.out]
      simp
     unfold T9.tag
     rw [this]
     simp
    have RH:=hid R
    clear W k R
    go_wp2
    go_ret
    exact⟨aj RH.out.symm,rfl⟩
   ·have p1:(x.toNat:Int)<97:=by omega
    have p3:(48:Int)≤(x.toNat:Int):=by omega
    have p4:(x.toNat:Int)≤57:=by omega
    have HP:=hid (W.1 (by omega))
    clear W k
    go_wp2
    go_roundw
    case rel=>exact⟨i+1,by go_num,by omega,hid (by rw [hit.out,ha.out,HP.out];rfl),by simp⟩
    case measure=>simp [intOf];omega
   ·have p1:(x.toNat:Int)<97:=by omega
    have p3:(48:Int)≤(x.toNat:Int):=by omega
    have p4:(57:Int)<(x.toNat:Int):=by omega
    have p4':decide ((x.toNat:Int)≤57)=false:=by simp;omega
    have p5:((x.toNat:Int)==45)=false:=by simp;omega
    have HP:Hid (T9.gc x=false):=hid (by rw [← Bool.not_eq_true];exact fun q=>absurd (W.2 q) (by omega))
    have R:T9.tag l=false:=by
     have:l.all T9.gc=false:=by
      rw [← List.take_append_drop (i+1) l,List.all_append,hit.out,HP.out]
      simp
     unfold T9.tag
     rw [this]
     simp
    have RH:=hid R
    clear W k R
    go_wp2
    go_ret
    exact⟨aj RH.out.symm,rfl⟩
   ·have p1:(97:Int)≤(x.toNat:Int):=by omega
    have p2:(x.toNat:Int)≤122:=by omega
    have HP:=hid (W.1 (by omega))
    clear W k
    go_wp2
    go_roundw
    case rel=>exact⟨i+1,by go_num,by omega,hid (by rw [hit.out,ha.out,HP.out];rfl),by simp⟩
    case measure=>simp [intOf];omega
   ·have p1:(97:Int)≤(x.toNat:Int):=by omega
    have p2:(122:Int)<(x.toNat:Int):=by omega
    have p2':decide ((x.toNat:Int)≤122)=false:=by simp;omega
    have p3:(48:Int)≤(x.toNat:Int):=by omega
    have p4:(57:Int)<(x.toNat:Int):=by omega
    have p4':decide ((x.toNat:Int)≤57)=false:=by simp;omega
    have p5:((x.toNat:Int)==45)=false:=by simp;omega
    have HP:Hid (T9.gc x=false):=hid (by rw [← Bool.not_eq_true];exact fun q=>absurd (W.2 q) (by omega))
    have R:T9.tag l=false:=by
     have:l.all T9.gc=false:=by
      rw [← List.take_append_drop (i+1) l,List.all_append,hit.out,HP.out]
      simp
     unfold T9.tag
     rw [this]
     simp
    have RH:=hid R
    clear W k R
    go_wp2
    go_ret
    exact⟨aj RH.out.symm,rfl⟩
  ·obtain rfl:i=s.size:=by omega
   have hltz:¬ ((s.size:Int)<(s.size:Int)):=by omega
   have h1:=ha.out
   rw [SZ.out,List.take_length] at h1
   have HA:=hid h1
   clear ha h1
   go_wp2
   all_goals
    go_ret
    exact⟨aj (by unfold T9.tag;rw [HA.out];have:=SZ.out;rw [Bool.eq_iff_iff];simp;omega),rfl⟩
end
section
open Go.RowKit Go.Lib
namespace T9
def jr (b:Nat):Bool:=Fl.I b==Fl.I (Fl.canon b)
def bH:List UInt8→List (List UInt8)→Bool
 | _,[]=>true
 | a,t :: l=>tag t && uI a t && bH t l
def aB (t:Tk):Int :=
 if title t.title=false then 94 else if (Fl.bK t.rank || !jr t.rank)=true then 100 else if jr t.est=false then 90 else if 4<t.tags.length then 95 else if bH [] t.tags=true then 0 else 94
def aR (ahead:Nat):List Li→Int
 | []=>0
 | l :: r=>if l.id≤ahead then 91 else if title l.name=false then 94 else aR l.id r
def aV (ls:List Li) (ahead:Nat):List Tk→Int
 | []=>0
 | t :: r=>if t.id≤ahead then 93 else if (ls.any fun l=>l.id==t.list)=false then 91 else if aB t≠0 then aB t else aV ls t.id r
def aH (s:St):Int :=
 if 20<s.lists.length∨60<s.tasks.length then 95 else if aR 0 s.lists≠0 then aR 0 s.lists else aV s.lists 0 s.tasks
def Tk.short (t:Tk):Prop:=t.title.length≤1000000∧(∀ x∈t.tags,x.length≤1000000)∧t.tags.length≤1000000
def St.short (s:St):Prop:=(∀ l∈s.lists,l.name.length≤1000000)∧(∀ t∈s.tasks,t.short)∧s.lists.length≤1000000∧s.tasks.length≤1000000
end T9
theorem xR {a x:List UInt8} (h:T9.uI a x=false):Op.bytesLess x a=true∨Op.bytesLess x a=false∧(x==a)=true:=by
 have h:¬ a<x:=by simpa [T9.uI] using h
 rcases List.le_iff_lt_or_eq.1 (List.not_lt.1 h) with r | r
 ·exact .inl (CW r)
 ·subst r
  exact .inr ⟨yS (List.lt_irrefl _),by simp⟩
theorem CU {a x:List UInt8} (h:T9.uI a x=true):Op.bytesLess x a=false∧(x==a)=false:=by
 have h:a<x:=by simpa [T9.uI] using h
 refine⟨yS fun q=>List.lt_irrefl _ (List.lt_trans q h),?_⟩
 rw [beq_eq_false_iff_ne]
 rintro rfl
 exact List.lt_irrefl _ h
theorem eO (b:Nat) (w:World) :
  Calls prog 133 #[.float .f64 b] w fun e w'=>e=.returned (.bool (T9.jr b))∧w=w':=by
 go_enter func133,ntmps133
 go_wp2_with (first | (go_at_call 126;refine (float64bits_c _ _).mono ?_;rintro e w' ⟨rfl,rfl⟩) | (go_at_call 127;refine (ig _ _).mono ?_;rintro e w' ⟨rfl,rfl⟩))
 go_ret
 exact⟨rfl,rfl⟩
theorem ru {m:fJ} {w:World} (hm:m.fine w) (hs:m.t.short) :
  Calls prog 108 #[.agg (dO m).toArray] w fun e w'=>e=.returned (.int .i64 (T9.aB m.t))∧Below w.heap.size w w':=by
 obtain⟨tk,A,c⟩:=m
 have hm:(⟨tk,A,c⟩:fJ).fine w:=hm
 have hs:tk.short:=hs
 show Calls prog 108 #[.agg (dO ⟨tk,A,c⟩).toArray] w fun e w'=>e=.returned (.int .i64 (T9.aB tk))∧Below w.heap.size w w'
 have HM:=hid hm
 have HS:=hid hs
 obtain⟨w1,hw1⟩:∃ u,w.alloc (.cells #[.int .u64 (tk.id:Int),.int .u64 (tk.list:Int),.string (str tk.title),.bool tk.done,.float .f64 tk.rank,.float .f64 tk.est,.slice A tk.tags.length c] 97)=u:=⟨_,rfl⟩
 have pb:w1.heap[w.heap.size]?=some (.cells #[.int .u64 (tk.id:Int),.int .u64 (tk.list:Int),.string (str tk.title),.bool tk.done,.float .f64 tk.rank,.float .f64 tk.est,.slice A tk.tags.length c] 97 (0,0)):=by rw [← hw1];exact heap_alloc_new w _
 have B1:Hid (Below w.heap.size w w1):=hid (by rw [← hw1];exact (Below.refl _ w).alloc (Nat.le_refl _) _)
 have GL1:Hid (GL w1 A tk.tags):=hid (hm.gl.stay B1.out)
 obtain⟨p0,p1,p2,p3,p4,p5,p6⟩:=ak pb
 have TC:=kr tk.title hs.1
 clear hm hs pb
 cases hT:T9.title tk.title with
 | false =>
  rw [hT] at TC
  have R:Hid (T9.aB tk=94):=hid (by unfold T9.aB;rw [if_pos hT])
  clear hT
  unfold dO
  go_enter func108,ntmps108
  go_wp2_with (go_at_call 72;refine (TC _).mono ?_;rintro e w' ⟨rfl,rfl⟩)
  go_ret
  exact⟨az R.out.symm,B1.out⟩
 | true =>
  rw [hT] at TC
  have HT:=hid hT
  clear hT
  cases hN:Fl.bK tk.rank with
  | true =>
   have R:Hid (T9.aB tk=100):=hid (by unfold T9.aB;rw [if_neg (by rw [HT.out];simp),if_pos (by rw [hN];rfl)])
   unfold dO
   go_enter func108,ntmps108
   go_wp2_with (first | (go_at_call 72;refine (TC _).mono ?_;rintro e w' ⟨rfl,rfl⟩) | (go_at_call 125;refine (dN _ _).mono ?_;rintro e w' ⟨rfl,rfl⟩) | (go_at_call 133;refine (eO _ _).mono ?_;rintro e w' ⟨rfl,rfl⟩))
   go_ret
   exact⟨az R.out.symm,B1.out⟩
  | false =>
   cases hR:T9.jr tk.rank with
   | false =>
    have R:Hid (T9.aB tk=100):=hid (by unfold T9.aB;rw [if_neg (by rw [HT.out];simp),if_pos (by rw [hN,hR];rfl)])
    unfold dO
    go_enter func108,ntmps108
    go_wp2_with (first | (go_at_call 72;refine (TC _).mono ?_;rintro e w' ⟨rfl,rfl⟩) | (go_at_call 125;refine (dN _ _).mono ?_;rintro e w' ⟨rfl,rfl⟩) | (go_at_call 133;refine (eO _ _).mono ?_;rintro e w' ⟨rfl,rfl⟩))
    go_ret
    exact⟨az R.out.symm,B1.out⟩
   | true =>
    have Bt:Hid ((Fl.bK tk.rank || !T9.jr tk.rank)=false):=hid (by rw [hN,hR];rfl)
    cases hE:T9.jr tk.est with
    | false =>
     have R:Hid (T9.aB tk=90):=hid (by unfold T9.aB;rw [if_neg (by rw [HT.out];simp),if_neg (by rw [Bt.out];simp),if_pos hE])
     unfold dO
     go_enter func108,ntmps108
     go_wp2_with (first | (go_at_call 72;refine (TC _).mono ?_;rintro e w' ⟨rfl,rfl⟩) | (go_at_call 125;refine (dN _ _).mono ?_;rintro e w' ⟨rfl,rfl⟩) | (go_at_call 133;refine (eO _ _).mono ?_;rintro e w' ⟨rfl,rfl⟩))
     go_ret
     exact⟨az R.out.symm,B1.out⟩
    | true =>
     have HE:Hid (T9.jr tk.est=true):=hid hE
     by_cases hL:4<tk.tags.length
     ·have R:Hid (T9.aB tk=95):=hid (by unfold T9.aB;rw [if_neg (by rw [HT.out];simp),if_neg (by rw [Bt.out];simp),if_neg (by rw [HE.out];simp),if_pos hL])
      have hLz:(4:Int)<(tk.tags.length:Int):=by omega
      unfold dO
      go_enter func108,ntmps108
      go_wp2_with (first | (go_at_call 72;refine (TC _).mono ?_;rintro e w' ⟨rfl,rfl⟩) | (go_at_call 125;refine (dN _ _).mono ?_;rintro e w' ⟨rfl,rfl⟩) | (go_at_call 133;refine (eO _ _).mono ?_;rintro e w' ⟨rfl,rfl⟩))
      go_ret
      exact⟨az R.out.symm,B1.out⟩
     ·have R:Hid (T9.aB tk=if T9.bH [] tk.tags=true then 0 else 94):=hid (by unfold T9.aB;rw [if_neg (by rw [HT.out];simp),if_neg (by rw [Bt.out];simp),if_neg (by rw [HE.out];simp),if_neg hL])
      have hLz:¬ ((4:Int)<(tk.tags.length:Int)):=by omega
      obtain⟨n,hn⟩:∃ n,n=tk.tags.length:=⟨_,rfl⟩
      have AR:=hid hn
      rw [← hn] at hw1 p6 hLz
      have hsm:n≤4:=by omega
      unfold dO
      rw [← hn]
      clear hL hn
      go_enter func108,ntmps108
      go_wp2_with (first | (go_at_call 72;refine (TC _).mono ?_;rintro e w' ⟨rfl,rfl⟩) | (go_at_call 125;refine (dN _ _).mono ?_;rintro e w' ⟨rfl,rfl⟩) | (go_at_call 133;refine (eO _ _).mono ?_;rintro e w' ⟨rfl,rfl⟩))
      go_loopw [3,35] (fun s3 s35 wr=>∃ (i:Nat) (a:List UInt8),s35=.int .i64 i∧s3=.string (str a)∧i≤n∧Hid (T9.bH [] tk.tags=T9.bH a (tk.tags.drop i))∧w1=wr) (fun _ s35 _=>n - (intOf s35).toNat)
      case atStart=>exact⟨0,[],rfl,rfl,Nat.zero_le _,hid rfl,rfl⟩
      case round =>
       obtain⟨i,a,rfl,rfl,hi,hU,rfl⟩:=hrel
       by_cases hlt:i<n
       ·have hltz:(i:Int)<(n:Int):=by omega
        obtain⟨ad,x,hA,hx,hc⟩:=GL1.out.at_ (k:=i) (by have:=AR.out;omega)
        subst hA
        have HX:=hid (HS.out.2.1 x (List.mem_of_getElem? hx))
        have U2:Hid (T9.bH [] tk.tags=(T9.tag x && T9.uI a x && T9.bH x (tk.tags.drop (i+1)))):=hid (by
         obtain⟨q1,q2⟩:=List.getElem?_eq_some_iff.1 hx
         rw [hU.out,List.drop_eq_getElem_cons q1,q2]
         rfl)
        have TG:=wI x HX.out
        cases hg:T9.tag x with
        | false =>
         rw [hg] at TG
         have R2:Hid (T9.aB tk=94):=hid (by rw [R.out,U2.out,hg];rfl)
         go_wp2_with (go_at_call 132;refine (TG _).mono ?_;rintro e w' ⟨rfl,rfl⟩)
         go_ret
         exact⟨az R2.out.symm,B1.out⟩
        | true =>
         rw [hg] at TG
         cases hl:T9.uI a x with
         | false =>
          have R2:Hid (T9.aB tk=94):=hid (by rw [R.out,U2.out,hg,hl];rfl)
          rcases xR hl with b1 | ⟨b1,b2⟩
          all_goals
           clear hg hl
           go_wp2_with (go_at_call 132;refine (TG _).mono ?_;rintro e w' ⟨rfl,rfl⟩)
           go_ret
           exact⟨az R2.out.symm,B1.out⟩
         | true =>
          obtain⟨b1,b2⟩:=CU hl
          have R2:=hid (show T9.bH [] tk.tags=T9.bH x (tk.tags.drop (i+1)) by rw [U2.out,hg,hl];rfl)
          clear hg hl
          go_wp2_with (go_at_call 132;refine (TG _).mono ?_;rintro e w' ⟨rfl,rfl⟩)
          go_roundw
          case rel=>exact⟨i+1,x,by go_num,rfl,by omega,R2,by simp⟩
          case measure=>simp [intOf];omega
       ·obtain rfl:i=n:=by omega
        have hltz:¬ ((i:Int)<(i:Int)):=by omega
        go_wp2
        go_ret
        refine⟨az ?_,B1.out⟩
        rw [R.out,hU.out,AR.out,List.drop_length]
        rfl
end
section
open Go.RowKit Go.Lib
theorem wO {ms:List fJ} {i:Nat} {m:fJ} (h:ms[i]?=some m):(bg ms).drop i=m.t :: (bg ms).drop (i+1):=by
 obtain⟨q1,q2⟩:=List.getElem?_eq_some_iff.1 h
 have e:=List.drop_eq_getElem_cons q1
 rw [q2] at e
 unfold bg
 rw [← List.map_drop,e,List.map_cons,List.map_drop]
theorem drop_at {α:Type} {ls:List α} {i:Nat} {l:α} (h:ls[i]?=some l):ls.drop i=l :: ls.drop (i+1):=by
 obtain⟨q1,q2⟩:=List.getElem?_eq_some_iff.1 h
 rw [List.drop_eq_getElem_cons q1,q2]
theorem Cb {α:Type} {ls:List α} {p:α→Bool} {i:Nat} {l:α} (h:ls[i]?=some l):(ls.take (i+1)).any p=((ls.take i).any p || p l):=by
 obtain⟨q1,q2⟩:=List.getElem?_eq_some_iff.1 h
 rw [List.take_succ_eq_append_getElem q1,q2]
 simp
theorem any_hit {α:Type} {ls:List α} {p:α→Bool} {i:Nat} {l:α} (h:ls[i]?=some l) (hp:p l=true):ls.any p=true:=List.any_eq_true.2 ⟨l,List.mem_of_getElem? h,hp⟩
theorem jA {l:T9.Li} {a:Nat} {r:List T9.Li} (h:¬ l.id≤a) (k:T9.title l.name=true):T9.aR a (l :: r)=T9.aR l.id r:=by
 show (if l.id≤a then 91 else if T9.title l.name=false then 94 else T9.aR l.id r)=_
 rw [if_neg h,if_neg (by rw [k];simp)]
theorem wK {ls:List T9.Li} {t:T9.Tk} {a:Nat} {r:List T9.Tk} (h:¬ t.id≤a) (k:¬ (ls.any fun l=>l.id==t.list)=false) (f:T9.aB t=0):T9.aV ls a (t :: r)=T9.aV ls t.id r:=by
 show (if t.id≤a then 93 else if (ls.any fun l=>l.id==t.list)=false then 91 else if T9.aB t≠0 then T9.aB t else T9.aV ls t.id r)=_
 rw [if_neg h,if_neg k,if_neg (by simp [f])]
theorem bP {w:World} {a b c d e f g:Value} {t:TypeId} {u:World} (h:w.alloc (.cells #[a,b,c,d,e,f,g] t)=u):u.heap[w.heap.size]?=some (.cells #[a,b,c,d,e,f,g] t (0,0))∧Below w.heap.size w u∧u.heap.size=w.heap.size+1:=by
 subst h
 exact⟨heap_alloc_new w _,(Below.refl _ w).alloc (Nat.le_refl _) _,by simp⟩
theorem uA {A A2:Option Addr} {n1 n2 c c2:Nat} {ls:List T9.Li} {ms:List fJ} {w:World} (hl:LL w A ls) (hk:KL w A2 ms) (e1:n1=ls.length) (e2:n2=ms.length) (hs:(⟨ls,bg ms⟩:T9.St).short) (hb:n1≤c∧n2≤c2) :
  Calls prog 73 #[.agg #[.slice A n1 c,.slice A2 n2 c2]] w fun e w'=>e=.returned (.int .i64 (T9.aV ls 0 (bg ms)))∧Below w.heap.size w w':=by
 have E1:=hid e1
 have E2:=hid e2
 have HS:=hid hs
 obtain⟨w1,hw1⟩:∃ u,w.alloc (.cells #[.slice A n1 c,.slice A2 n2 c2] 28)=u:=⟨_,rfl⟩
 obtain⟨pb,b1,z1⟩:=aM hw1
 have PB:=hid pb
 have B1:=hid b1
 have HL:=hid (hl.stay b1)
 have HK:=hid (hk.stay b1)
 have Z1:=hid z1
 have sm1:n1≤1000000:=by have:=hs.2.2.1;simp at this;omega
 have sm2:n2≤1000000:=by have:=hs.2.2.2;rw [bv] at this;omega
 obtain⟨p0,p1⟩:=ai pb
 clear hl hk e1 e2 hs pb b1 z1
 go_enter func73,ntmps73
 go_wp2
 go_step3
 go_wp2
 go_step3
 go_wp2
 go_loopw [3,12] (fun s3 s12 wr=>∃ (a i:Nat),s3=.int .u64 a∧s12=.int .i64 i∧i≤n2∧Hid (T9.aV ls 0 (bg ms)=T9.aV ls a ((bg ms).drop i))∧Aside (Below w1.heap.size w1 wr)) (fun _ s12 _=>n2 - (intOf s12).toNat)
 case atStart=>exact⟨0,0,rfl,rfl,Nat.zero_le _,hid rfl,Below.refl _ _⟩
 case round =>
  obtain⟨wo,hwo⟩:∃ u,u=wr:=⟨_,rfl⟩
  subst hwo
  obtain⟨a,i,rfl,rfl,hi,hU,hB⟩:=hrel
  have BR:=hid hB.out
  clear hB
  by_cases hlt:i<n2
  ·have hltz:(i:Int)<(n2:Int):=by omega
   obtain⟨ad,⟨tk,A3,c3⟩,hA,hx,hf,r0,r1,r2,r3,r4,r5,r6⟩:=(HK.out.stay BR.out).at_ (k:=i) (by have:=E2.out;omega)
   subst hA
   have FI:=hid hf
   have SH:Hid tk.short:=hid (HS.out.2.1 tk (List.mem_map.2 ⟨_,List.mem_of_getElem? hx,rfl⟩))
   have U2:Hid (T9.aV ls 0 (bg ms)=T9.aV ls a (tk :: (bg ms).drop (i+1))):=hid (by rw [hU.out,wO hx])
   dsimp only at r0 r1 r2 r3 r4 r5 r6
   obtain⟨w2,hw2⟩:∃ u,wo.alloc (.cells #[.int .u64 (tk.id:Int),.int .u64 (tk.list:Int),.string (str tk.title),.bool tk.done,.float .f64 tk.rank,.float .f64 tk.est,.slice A3 tk.tags.length c3] 97)=u:=⟨_,rfl⟩
   obtain⟨tb,b2,z2⟩:=bP hw2
   have TB:=hid tb
   have B2:Hid (Below w1.heap.size w1 w2):=hid (BR.out.trans (b2.mono BR.out.size))
   have B2':=hid b2
   have Z2:=hid z2
   have fT:=(B2.out.block w.heap.size (by have:=Z1.out;omega)).trans PB.out
   obtain⟨t0,t1,t2,t3,t4,t5,t6⟩:=ak tb
   obtain⟨u0,u1⟩:=ai fT
   clear hf hx tb b2 z2 fT
   by_cases fw:tk.id≤a
   ·have hz:(tk.id:Int)≤(a:Int):=by omega
    have R:Hid (T9.aV ls 0 (bg ms)=93):=hid (by rw [U2.out];unfold T9.aV;rw [if_pos fw])
    go_wp2
    rw [Exit.noGoto_ret]
    go_ret
    exact⟨az R.out.symm,B1.out.trans (B2.out.mono B1.out.size)⟩
   ·have hz:¬ ((tk.id:Int)≤(a:Int)):=by omega
    have NI:=hid fw
    clear fw
    go_wp2
    go_loopw [25] (fun s25 wi=>∃ j:Nat,s25=.int .i64 j∧j≤n1∧Hid ((ls.take j).any (fun l=>l.id==tk.list)=false)∧Aside (Below w2.heap.size w2 wi)) (fun s25 _=>n1 - (intOf s25).toNat)
    case atStart=>exact⟨0,rfl,Nat.zero_le _,hid (by simp),Below.refl _ _⟩
    case round =>
     obtain⟨j,rfl,hj,hV,hC⟩:=hrel
     have CR:=hid hC.out
     clear hC
     by_cases hlj:j<n1
     ·have hljz:(j:Int)<(n1:Int):=by omega
      obtain⟨ad1,l,hA1,hx1,q0,q1⟩:=(HL.out.stay (B2.out.trans (CR.out.mono B2.out.size))).at_ (k:=j) (by have:=E1.out;omega)
      subst hA1
      have X1:=hid hx1
      obtain⟨w3,hw3⟩:∃ u,wr.alloc (.cells #[.int .u64 (l.id:Int),.string (str l.name)] 94)=u:=⟨_,rfl⟩
      obtain⟨lb,b3,z3⟩:=aM hw3
      have B3:Hid (Below w2.heap.size w2 w3):=hid (CR.out.trans (b3.mono CR.out.size))
      have tb3:=(B3.out.block wo.heap.size (by have:=Z2.out;omega)).trans TB.out
      obtain⟨t0,t1,t2,t3,t4,t5,t6⟩:=ak tb3
      obtain⟨l0,l1⟩:=ai lb
      clear hx1 lb b3 z3 tb3
      by_cases he:l.id=tk.list
      ·have hez:((l.id:Int)==(tk.list:Int))=true:=by rw [he];simp
       have hez2:((l.id:Int) != (tk.list:Int))=false:=by rw [he];simp
       have AN:Hid (¬ (ls.any fun l=>l.id==tk.list)=false):=hid (by rw [any_hit X1.out (by simp [he])];simp)
       have BF:=hid (B2.out.trans (B3.out.mono B2.out.size))
       have RF:Hid (Calls prog 108 #[.agg #[.int .u64 (tk.id:Int),.int .u64 (tk.list:Int),.string (str tk.title),.bool tk.done,.float .f64 tk.rank,.float .f64 tk.est,.slice A3 tk.tags.length c3]] w3 fun e w'=>e=.returned (.int .i64 (T9.aB tk))∧Below w3.heap.size w3 w'):=hid (ru (m:=⟨tk,A3,c3⟩) (FI.out.stay (B2'.out.trans (B3.out.mono B2'.out.size))) SH.out)
       clear he
       by_cases hf:T9.aB tk=0
       ·have U3:Hid (T9.aV ls 0 (bg ms)=T9.aV ls tk.id ((bg ms).drop (i+1))):=hid (by rw [U2.out];unfold T9.aV;rw [if_neg NI.out,if_neg AN.out,if_neg (by simp [hf])];cases (bg ms).drop (i+1) <;> rfl)
        rw [hf] at RF
        clear hf
        go_wp2_with fail
        refine RF.out.mono ?_
        rintro e w4 ⟨rfl,h4⟩
        have H4:=hid h4
        clear h4
        go_wp2
        go_roundw
        case rel=>exact⟨tk.id,i+1,rfl,by go_num,by omega,U3,(BF.out.trans (H4.out.mono BF.out.size))⟩
        case measure=>simp [intOf];omega
       ·have R:Hid (T9.aV ls 0 (bg ms)=T9.aB tk):=hid (by rw [U2.out];unfold T9.aV;rw [if_neg NI.out,if_neg AN.out,if_pos hf])
        have hfz:(T9.aB tk==0)=false:=by simp [hf]
        have hfz2:(T9.aB tk != 0)=true:=by simp [hf]
        go_wp2_with fail
        refine RF.out.mono ?_
        rintro e w4 ⟨rfl,h4⟩
        have H4:=hid h4
        clear h4
        go_wp2
        rw [Exit.noGoto_ret]
        go_ret
        exact⟨az R.out.symm,B1.out.trans ((BF.out.trans (H4.out.mono BF.out.size)).mono B1.out.size)⟩
      ·have hez:((l.id:Int)==(tk.list:Int))=false:=by simp;omega
       have hez2:((l.id:Int) != (tk.list:Int))=true:=by simp;omega
       have AN:Hid ((ls.take (j+1)).any (fun l=>l.id==tk.list)=false):=hid (by rw [Cb X1.out,hV.out];simp [he])
       clear he
       go_wp2
       go_roundw
       case rel=>exact⟨j+1,by go_num,by omega,AN,B3.out⟩
       case measure=>simp [intOf];omega
     ·obtain rfl:j=n1:=by omega
      have hljz:¬ ((j:Int)<(j:Int)):=by omega
      have R:Hid (T9.aV ls 0 (bg ms)=91):=hid (by
       have:=hV.out
       rw [E1.out,List.take_length] at this
       rw [U2.out];unfold T9.aV;rw [if_neg NI.out,if_pos this])
      have BF:=hid (B2.out.trans (CR.out.mono B2.out.size))
      go_wp2
      try rw [Exit.noGoto_ret]
      go_ret
      exact⟨az R.out.symm,B1.out.trans (BF.out.mono B1.out.size)⟩
  ·obtain rfl:i=n2:=by omega
   have hltz:¬ ((i:Int)<(i:Int)):=by omega
   have R:Hid (T9.aV ls 0 (bg ms)=0):=hid (by rw [hU.out,E2.out,← bv ms,List.drop_length];rfl)
   go_wp2
   try rw [Exit.noGoto_ret]
   go_ret
   exact⟨az R.out.symm,B1.out.trans (BR.out.mono B1.out.size)⟩
theorem zh {A A2:Option Addr} {n1 n2 c c2:Nat} {ls:List T9.Li} {ms:List fJ} {w:World} (hl:LL w A ls) (hk:KL w A2 ms) (e1:n1=ls.length) (e2:n2=ms.length) (hs:(⟨ls,bg ms⟩:T9.St).short) (hb:n1≤c∧n2≤c2) :
  Calls prog 32 #[.agg #[.slice A n1 c,.slice A2 n2 c2]] w fun e w'=>e=.returned (.int .i64 (T9.aH ⟨ls,bg ms⟩))∧Below w.heap.size w w':=by
 have E1:=hid e1
 have E2:=hid e2
 have HS:=hid hs
 obtain⟨w1,hw1⟩:∃ u,w.alloc (.cells #[.slice A n1 c,.slice A2 n2 c2] 28)=u:=⟨_,rfl⟩
 obtain⟨pb,b1,z1⟩:=aM hw1
 have PB:=hid pb
 have B1:=hid b1
 have HL:=hid (hl.stay b1)
 have HK:=hid (hk.stay b1)
 have Z1:=hid z1
 have sm1:n1≤1000000:=by have:=hs.2.2.1;simp at this;omega
 have sm2:n2≤1000000:=by have:=hs.2.2.2;rw [bv] at this;omega
 obtain⟨p0,p1⟩:=ai pb
 have ET:Hid ((bg ms).length=n2):=hid (by rw [bv];exact e2.symm)
 have HBC:=hid hb
 clear hl hk e1 e2 hs pb b1 z1 hb
 by_cases hm1:20<n1
 ·have hmz:(20:Int)<(n1:Int):=by omega
  have R:Hid (T9.aH ⟨ls,bg ms⟩=95):=hid (by unfold T9.aH;rw [if_pos (.inl (by rw [← E1.out];exact hm1))])
  go_enter func32,ntmps32
  go_wp2
  go_ret
  exact⟨az R.out.symm,B1.out⟩
 have hmz:¬ ((20:Int)<(n1:Int)):=by omega
 by_cases hm2:60<n2
 ·have Cu:(60:Int)<(n2:Int):=by omega
  have R:Hid (T9.aH ⟨ls,bg ms⟩=95):=hid (by unfold T9.aH;rw [if_pos (.inr (by rw [ET.out];exact hm2))])
  go_enter func32,ntmps32
  go_wp2
  go_ret
  exact⟨az R.out.symm,B1.out⟩
 have Cu:¬ ((60:Int)<(n2:Int)):=by omega
 have R:Hid (T9.aH ⟨ls,bg ms⟩=if T9.aR 0 ls≠0 then T9.aR 0 ls else T9.aV ls 0 (bg ms)):=hid (by unfold T9.aH;rw [if_neg (by rw [ET.out,← E1.out];omega)])
 clear hm1 hm2
 go_enter func32,ntmps32
 go_wp2
 go_loopw [3,19] (fun s3 s19 wr=>∃ (a i:Nat),s3=.int .u64 a∧s19=.int .i64 i∧i≤n1∧Hid (T9.aR 0 ls=T9.aR a (ls.drop i))∧Aside (Below w1.heap.size w1 wr)) (fun _ s19 _=>n1 - (intOf s19).toNat)
 case atStart=>exact⟨0,0,rfl,rfl,Nat.zero_le _,hid rfl,Below.refl _ _⟩
 case round =>
  obtain⟨a,i,rfl,rfl,hi,hU,hB⟩:=hrel
  have BR:=hid hB.out
  clear hB
  have xW:=(BR.out.block w.heap.size (by have:=Z1.out;omega)).trans PB.out
  by_cases hlt:i<n1
  ·have hltz:(i:Int)<(n1:Int):=by omega
   obtain⟨ad,l,hA,hx,q0,q1⟩:=(HL.out.stay BR.out).at_ (k:=i) (by have:=E1.out;omega)
   subst hA
   have SH:Hid (l.name.length≤1000000):=hid (HS.out.1 l (List.mem_of_getElem? hx))
   have U2:Hid (T9.aR 0 ls=T9.aR a (l :: ls.drop (i+1))):=hid (by rw [hU.out,drop_at hx])
   obtain⟨w2,hw2⟩:∃ u,wr.alloc (.cells #[.int .u64 (l.id:Int),.string (str l.name)] 94)=u:=⟨_,rfl⟩
   obtain⟨lb,b2,z2⟩:=aM hw2
   have B2:Hid (Below w1.heap.size w1 w2):=hid (BR.out.trans (b2.mono BR.out.size))
   obtain⟨l0,l1⟩:=ai lb
   clear hx lb b2 z2 xW
   by_cases fw:l.id≤a
   ·have hz:(l.id:Int)≤(a:Int):=by omega
    have R2:Hid (T9.aH ⟨ls,bg ms⟩=91):=hid (by
     have:T9.aR 0 ls=91:=by rw [U2.out];unfold T9.aR;rw [if_pos fw]
     rw [R.out,this];rfl)
    go_wp2
    go_ret
    exact⟨az R2.out.symm,B1.out.trans (B2.out.mono B1.out.size)⟩
   ·have hz:¬ ((l.id:Int)≤(a:Int)):=by omega
    have NI:=hid fw
    have TC:=kr l.name SH.out
    clear fw
    cases hT:T9.title l.name with
    | false =>
     rw [hT] at TC
     have R2:Hid (T9.aH ⟨ls,bg ms⟩=94):=hid (by
      have:T9.aR 0 ls=94:=by rw [U2.out];unfold T9.aR;rw [if_neg NI.out,if_pos hT]
      rw [R.out,this];rfl)
     clear hT
     go_wp2_with (go_at_call 72;refine (TC _).mono ?_;rintro e w' ⟨rfl,rfl⟩)
     go_ret
     exact⟨az R2.out.symm,B1.out.trans (B2.out.mono B1.out.size)⟩
    | true =>
     rw [hT] at TC
     have U3:Hid (T9.aR 0 ls=T9.aR l.id (ls.drop (i+1))):=hid (U2.out.trans (jA NI.out hT))
     clear hT
     go_wp2_with (go_at_call 72;refine (TC _).mono ?_;rintro e w' ⟨rfl,rfl⟩)
     go_roundw
     case rel=>exact⟨l.id,i+1,rfl,by go_num,by omega,U3,B2.out⟩
     case measure=>simp [intOf];omega
  ·obtain rfl:i=n1:=by omega
   have hltz:¬ ((i:Int)<(i:Int)):=by omega
   have R2:Hid (T9.aH ⟨ls,bg ms⟩=T9.aV ls 0 (bg ms)):=hid (by
    have:T9.aR 0 ls=0:=by rw [hU.out,E1.out,List.drop_length];rfl
    rw [R.out,this];rfl)
   have RT:=hid (uA (HL.out.stay BR.out) (HK.out.stay BR.out) E1.out E2.out HS.out HBC.out)
   obtain⟨r0,r1⟩:=ai xW
   clear xW
   go_wp2_with fail
   refine RT.out.mono ?_
   rintro e w4 ⟨rfl,h4⟩
   have H4:=hid h4
   clear h4
   go_wp2
   go_ret
   exact⟨az R2.out.symm,B1.out.trans ((BR.out.trans (H4.out.mono BR.out.size)).mono B1.out.size)⟩
end
end
end Go.Proofs.YtmcfknnfaokmlaaGreat
