/- Words that stand one behind the other, as a lexer finds them. Plain lemmas. Whole numbers as a lexer finds them. Plain lemmas. Numbers with a fraction and a power of ten, as a lexer finds them. Plain lemmas. What is known of the words that a lexer found. Plain lemmas. The six gaps that a law puts between words. Plain lemmas. What is shown of a word is that word's text. Plain lemmas. Pieces of a text and their words: put together. Plain lemmas. Constants that are printed, and their words. Plain lemmas. -/
import Derived.Test.YteclejplbphkpaaGreatG13
import Derived.Test.YteclejplbphkpaaGreatG10
import Derived.Test.YteclejplbphkpaaGreatG24
set_option linter.unusedVariables false
set_option linter.unusedSimpArgs false
set_option linter.unnecessarySimpa false
namespace Go.Proofs.YteclejplbphkpaaGreat
def Bd (l:List UInt8):Prop:=l=[]∨∃ c r,l=c :: r∧isNmS c=false
theorem Bd.nil_:Bd []:=.inl rfl
theorem Bd.of {c:UInt8} {r:List UInt8} (h:isNmS c=false):Bd (c :: r):=.inr ⟨c,r,rfl,h⟩
theorem spanN_app {p:UInt8→Bool} {a b:List UInt8} (ha:∀ c ∈ a,p c=true) (hb:b=[]∨∃ c r,b=c :: r∧p c=false):spanN p (a++b)=a.length :=
 spanN_is p _ _ (by simp) (by simpa using ha) (by simpa using hb)
theorem spanN_add {p:UInt8→Bool} {a b:List UInt8} (ha:∀ c ∈ a,p c=true):spanN p (a++b)=a.length+spanN p b:=by
 induction a with
 | nil=>simp
 | cons c a ih =>
  rw [List.cons_append]
  show (if _ then _ else _)=_
  rw [if_pos (ha c (by simp)),ih (fun d hd=>ha d (by simp [hd]))]
  simp;omega
def bare (v:TokV):Nat×List UInt8×Int×Nat:=(v.k,v.t,v.n,v.d)
structure Wd (v:Nat×List UInt8×Int×Nat) (t:List UInt8):Prop where
 pos:0<t.length
 notEnd:v.1≠6
 first:∀ r,Bd r→∃ x,firstS (t++r)=(0,x,t.length)∧bare x=v
 ahead:∃ c r,t=c :: r∧isWhS c=false∧c≠35∧c≠47
theorem Bd.goes {r:List UInt8} (h:Bd r):goesS r=false:=by
 rcases h with rfl | ⟨c,l,rfl,h⟩
 ·rfl
 ·exact h
theorem Wd.word {v:Nat×List UInt8×Int×Nat} {t:List UInt8} (h:Wd v t) {r:List UInt8} (hr:Bd r):∃ x,wordS (t++r)=(0,0,x,t.length)∧bare x=v:=by
 obtain ⟨x,h1,h2⟩:=h.first r hr
 refine ⟨x,?_,h2⟩
 unfold wordS
 rw [h1]
 simp [hr.goes]
def Sk (s:List UInt8):Prop:=∀ r,(r=[]∨∃ c l,r=c :: l∧isWhS c=false∧c≠35∧c≠47)→skipS (s++r)=(s.length,true)
theorem gapS_word {r:List UInt8} (h:r=[]∨∃ c l,r=c :: l∧isWhS c=false∧c≠35∧c≠47):gapS r=(0,true):=by
 rcases h with rfl | ⟨c,l,rfl,h1,h2,h3⟩
 ·rfl
 ·unfold gapS
  dsimp only
  rw [if_neg (by simp [h2,h3]),if_neg (by simp [h3])]
  unfold spanN
  rw [h1];rfl
theorem Sk.none_:Sk []:=fun r h=>by
 rw [List.nil_append,skipS_step,gapS_word h];rfl
theorem Sk.gap {g s:List UInt8} (hs:Sk s) (hg:0<g.length) (h:∀ r,gapS (g++(s++r))=(g.length,true)∨(r≠[]∧¬ ∃ c l,r=c :: l∧isWhS c=false∧c≠35∧c≠47)):Sk (g++s):=fun r hr=>by
 have hgap:gapS (g++(s++r))=(g.length,true):=by
  rcases h r with h | ⟨h1,h2⟩
  ·exact h
  ·rcases hr with rfl | hr
   ·exact absurd rfl h1
   ·exact absurd hr h2
 rw [List.append_assoc,skipS_step,hgap]
 dsimp only
 rw [if_neg (by omega),List.drop_left' rfl,hs r hr]
 simp
theorem Sk.white {g:List UInt8} (h:∀ c ∈ g,isWhS c=true):Sk g:=by
 cases g with
 | nil=>exact Sk.none_
 | cons c g =>
  have hc:=h c (by simp)
  have hcn:c≠35∧c≠47:=by
   constructor
   ·intro e;subst e;revert hc;decide
   ·intro e;subst e;revert hc;decide
  have:=Sk.gap (g:=c :: g) (s:=[]) Sk.none_ (by simp) (fun r=>by
   by_cases hr:r=[]∨∃ c l,r=c :: l∧isWhS c=false∧c≠35∧c≠47
   ·refine .inl ?_
    rw [List.nil_append]
    show gapS (c :: (g++r))=_
    unfold gapS
    dsimp only
    rw [if_neg (by simp [hcn.1,hcn.2]),if_neg (by simp [hcn.2])]
    have:spanN isWhS ((c :: g)++r)=(c :: g).length:=spanN_app h (hr.imp id fun ⟨c,l,h1,h2,_⟩=>⟨c,l,h1,h2⟩)
    rw [List.cons_append] at this
    rw [this]
   ·refine .inr ⟨fun e=>hr (.inl e),fun e=>hr (.inr e)⟩)
  simpa using this
def Lxs (l:List UInt8) (vs:List (Nat×List UInt8×Int×Nat)):Prop:=∀ f o,l.length<f→∃ ts,lexF f o l=(ts,0,0)∧ts.map bare=vs++[(6,[],0,0)]
theorem Lxs.end_ {s:List UInt8} (h:Sk s):Lxs s []:=fun f o hf=>by
 cases f with
 | zero=>omega
 | succ f =>
  have h1:=h [] (.inl rfl)
  rw [List.append_nil] at h1
  have h2:nextS o s=(0,0,⟨6,[],0,0,o+s.length⟩,s.length):=by
   unfold nextS
   rw [h1]
   dsimp only
   rw [if_neg (by simp),List.drop_length]
   rfl
  refine ⟨[⟨6,[],0,0,o+s.length⟩],?_,rfl⟩
  show (if _ then _ else _)=_
  rw [h2]
  rfl
theorem Lxs.cons {s t r:List UInt8} {v:Nat×List UInt8×Int×Nat} {vs:List (Nat×List UInt8×Int×Nat)} (hs:Sk s) (ht:Wd v t) (hr:Bd r) (h:Lxs r vs):Lxs (s++(t++r)) (v :: vs):=fun f o hf=>by
 cases f with
 | zero=>omega
 | succ f =>
  obtain ⟨c,t',e,a1,a2,a3⟩:=ht.ahead
  have h1:=hs (t++r) (.inr ⟨c,t'++r,by rw [e];rfl,a1,a2,a3⟩)
  obtain ⟨x,h2,h3⟩:=ht.word hr
  have h4:nextS o (s++(t++r))=(0,0,{ x with p:=o+s.length },s.length+t.length):=by
   unfold nextS
   rw [h1]
   dsimp only
   rw [if_neg (by simp),List.drop_left' rfl,h2]
   rfl
  have hp:=ht.pos
  simp only [List.length_append] at hf
  obtain ⟨ts,h5,h6⟩:=h f (o+(s.length+t.length)) (by omega)
  have hx:x.k=v.1:=by rw [← h3];rfl
  refine ⟨{ x with p:=o+s.length } :: ts,?_,?_⟩
  ·show (if _ then _ else _)=_
   rw [h4]
   dsimp only
   have hd:(s++(t++r)).drop (s.length+t.length)=r:=by
    rw [← List.append_assoc,← List.length_append,List.drop_left' rfl]
   rw [if_neg (by simp),if_neg (by rw [hx];exact ht.notEnd),hd,h5]
   rfl
  ·rw [List.map_cons,h6]
   show (x.k,x.t,x.n,x.d) :: _=_
   rw [show (x.k,x.t,x.n,x.d)=v from h3];rfl
theorem Lxs.lex {l:List UInt8} {vs:List (Nat×List UInt8×Int×Nat)} (h:Lxs l vs) (hl:l.length≤2000):∃ ts,lexS l=(ts,0,0)∧ts.map bare=vs++[(6,[],0,0)]:=by
 unfold lexS
 rw [if_neg (by omega)]
 exact h _ 0 (by omega)
theorem lex_long {l:List UInt8} (hl:2000<l.length):lexS l=([],4,0):=by
 unfold lexS;rw [if_pos hl]
theorem Wd.name {t:List UInt8} (h1:∃ c r,t=c :: r∧(isLetS c || decide (c.toNat=95))=true) (h2:∀ c ∈ t,isNmS c=true) (h3:t.length≤120) (h4:dotBad t=false):Wd (1,t,0,0) t:=by
 obtain ⟨c,r,rfl,hc⟩:=h1
 have hcn:c.toNat≠35∧c.toNat≠47∧isWhS c=false:=by
  unfold isLetS at hc
  simp at hc
  refine ⟨by omega,by omega,?_⟩
  unfold isWhS
  simp
  omega
 refine ⟨by simp,(show (1:Nat)≠6 by decide),fun r' hr=>?_,c,r,rfl,hcn.2.2,fun e=>hcn.1 (by rw [e];rfl),fun e=>hcn.2.1 (by rw [e];rfl)⟩
 have hs:spanN isNmS ((c :: r)++r')=(c :: r).length:=spanN_app h2 hr
 refine ⟨⟨1,c :: r,0,0,0⟩,?_,rfl⟩
 show (if _ then nameS (c :: (r++r')) else _)=_
 rw [if_pos hc]
 rw [List.cons_append] at hs
 unfold nameS
 rw [hs]
 have ht:(c :: (r++r')).take (c :: r).length=c :: r:=by
  rw [← List.cons_append];exact List.take_left' rfl
 rw [if_neg (by omega),ht,h4]
 simp
theorem Wd.sign {c:UInt8} (h:signsL.contains c=true):Wd (5,[c],0,0) [c]:=by
 have hm:c ∈ signsL:=List.contains_iff_mem.1 h
 refine ⟨by simp,(show (5:Nat)≠6 by decide),fun r _=>⟨⟨5,[c],0,0,0⟩,?_,rfl⟩,c,[],rfl,?_⟩
 ·unfold signsL at hm
  simp only [List.mem_cons,List.not_mem_nil,or_false] at hm
  rcases hm with rfl | rfl | rfl | rfl | rfl | rfl | rfl | rfl | rfl | rfl | rfl | rfl | rfl <;> rfl
 ·unfold signsL at hm
  simp only [List.mem_cons,List.not_mem_nil,or_false] at hm
  rcases hm with rfl | rfl | rfl | rfl | rfl | rfl | rfl | rfl | rfl | rfl | rfl | rfl | rfl <;> exact ⟨by decide,by decide,by decide⟩
theorem Wd.text {q:UInt8} {s:List UInt8} (hq:q=34∨q=39) (h1:∀ c ∈ s,c≠q) (h2:∀ c ∈ s,c≠10):Wd (4,s,0,0) (q :: (s++[q])):=by
 refine ⟨by simp,(show (4:Nat)≠6 by decide),fun r _=>⟨⟨4,s,0,0,0⟩,?_,rfl⟩,q,s++[q],rfl,?_⟩
 ·have hn:quoteN q (s++(q :: r))=s.length:=spanN_app (by simpa using h1) (.inr ⟨q,r,rfl,by simp⟩)
  have hl:¬ lineN (s++(q :: r))<s.length:=by
   unfold lineN
   rw [spanN_add (p:=fun c=>decide (c≠10)) (b:=q :: r) (by simpa using h2)]
   omega
  have hqs:quotedS q (s++(q :: r))=(0,⟨4,s,0,0,0⟩,s.length+2):=by
   unfold quotedS
   rw [hn,if_neg (by simp;omega),List.take_left' rfl]
  have hlist:(q :: (s++[q]))++r=q :: (s++(q :: r)):=by simp
  rw [hlist]
  rcases hq with rfl | rfl
  ·show quotedS 34 _=_
   rw [hqs];simp
  ·show quotedS 39 _=_
   rw [hqs];simp
 ·rcases hq with rfl | rfl <;> exact ⟨by decide,by decide,by decide⟩
end Go.Proofs.YteclejplbphkpaaGreat
namespace Go.Proofs.YteclejplbphkpaaGreat
theorem nm_dig {c:UInt8} (h:isNmS c=false):isDig c=false∧c.toNat≠46∧c.toNat≠101∧c.toNat≠69∧c.toNat≠120:=by
 unfold isNmS isLetS at h
 simp only [Bool.or_eq_false_iff,Bool.and_eq_false_iff,decide_eq_false_iff_not] at h
 obtain ⟨⟨⟨h1,h2⟩,h3⟩,h4⟩:=h
 refine ⟨h2,h4,?_,?_,?_⟩ <;> omega
theorem Bd.dig {r:List UInt8} (h:Bd r):r=[]∨∃ c l,r=c :: l∧isDig c=false:=h.imp id fun ⟨c,l,e,k⟩=>⟨c,l,e,(nm_dig k).1⟩
theorem Bd.frac {r:List UInt8} (h:Bd r):fracN r=0:=by
 rcases h with rfl | ⟨c,l,rfl,h⟩
 ·rfl
 ·unfold fracN
  dsimp only
  rw [if_neg (fun e=>(nm_dig h).2.1 e.1)]
theorem Bd.exp {r:List UInt8} (h:Bd r):expN r=0:=by
 rcases h with rfl | ⟨c,l,rfl,h⟩
 ·rfl
 ·unfold expN
  dsimp only
  rw [if_neg (fun e=>e.1.elim (nm_dig h).2.2.1 (nm_dig h).2.2.2.1)]
theorem dig_nat {c:UInt8} (h:isDig c=true):48≤c.toNat∧c.toNat≤57:=by
 unfold isDig at h
 simp at h
 omega
def Sgn (s:List UInt8):Prop:=s=[]∨s=[45]
theorem Sgn.n {s l:List UInt8} (h:Sgn s) (hl:∃ c r,l=c :: r∧isDig c=true):sgnN (s++l)=s.length:=by
 obtain ⟨c,r,rfl,hc⟩:=hl
 have:=dig_nat hc
 rcases h with rfl | rfl
 ·show (if _ then 1 else 0)=0
  rw [if_neg (by omega)]
 ·rfl
theorem hex_no {s W r:List UInt8} (hs:Sgn s) (hW:∀ c ∈ W,isDig c=true) (h0:W≠[]) (hr:r=[]∨∃ c l,r=c :: l∧c.toNat≠120):hexN (s++(W++r))=0:=by
 have key:∀ (a b:UInt8) (l:List UInt8),b.toNat≠120∨a.toNat≠48→hexN (a :: b :: l)=0:=fun a b l h=>by
  show (if _ then _ else _)=_
  rw [if_neg]
  rintro ⟨rfl,rfl,-⟩
  rcases h with h | h <;> exact h rfl
 obtain ⟨c,W',rfl⟩:∃ c W',W=c :: W':=by
  cases W with
  | nil=>exact absurd rfl h0
  | cons c W'=>exact ⟨c,W',rfl⟩
 rcases hs with rfl | rfl
 ·cases W' with
  | cons d W' =>
   have:=dig_nat (hW d (by simp))
   exact key c d _ (.inl (by omega))
  | nil =>
   rcases hr with rfl | ⟨d,l,rfl,hd⟩
   ·rfl
   ·exact key c d l (.inl hd)
 ·exact key 45 c _ (.inr (by decide))
theorem natB_snocL (b:Nat) (l:List UInt8) (c:UInt8):natB b (l++[c])=b * natB b l+hexV c:=by
 unfold natB;rw [List.foldl_append];rfl
theorem dig_of (n:Nat):isDig (UInt8.ofNat (48+n % 10))=true∧hexV (UInt8.ofNat (48+n % 10))=n % 10:=by
 have h:(UInt8.ofNat (48+n % 10)).toNat=48+n % 10:=by
  have:(UInt8.ofNat (48+n % 10)).toNat=(48+n % 10) % 256:=by simp
  omega
 unfold isDig hexV
 rw [h]
 constructor
 ·simp;omega
 ·rw [if_neg (by omega),if_neg (by omega)];omega
theorem decS_dig (n:Nat):∀ c ∈ decS n,isDig c=true:=by
 induction n using Nat.strongRecOn with
 | _ n ih =>
  by_cases h:n<10
  ·rw [decS_small n h]
   intro c hc
   rw [List.mem_singleton.1 hc];exact (dig_of n).1
  ·rw [decS_step n (by omega)]
   intro c hc
   rcases List.mem_append.1 hc with h1 | h1
   ·exact ih (n / 10) (by omega) c h1
   ·rw [List.mem_singleton.1 h1];exact (dig_of n).1
theorem natB_dec (n:Nat):natB 10 (decS n)=n:=by
 induction n using Nat.strongRecOn with
 | _ n ih =>
  by_cases h:n<10
  ·rw [decS_small n h]
   show 10 * 0+hexV _=n
   rw [(dig_of n).2];omega
  ·rw [decS_step n (by omega),natB_snocL,ih (n / 10) (by omega),(dig_of n).2];omega
theorem decS_ne0 (n:Nat):decS n≠[]:=fun h=>by have:=decS_pos n;rw [h] at this;simp at this
theorem decN_int {s W r:List UInt8} (hs:Sgn s) (hW:∀ c ∈ W,isDig c=true) (h0:W≠[]) (hr:Bd r):decN (s++(W++r))=s.length+W.length:=by
 have hhead:∃ c l,W++r=c :: l∧isDig c=true:=by
  cases W with
  | nil=>exact absurd rfl h0
  | cons c W'=>exact ⟨c,W'++r,rfl,hW c (by simp)⟩
 have hd:digN (W++r)=W.length:=spanN_app hW hr.dig
 unfold decN
 dsimp only
 rw [hs.n hhead,List.drop_left' rfl,hd,← List.append_assoc,show s.length+W.length=(s++W).length by simp,List.drop_left' rfl,hr.frac,Nat.add_zero]
 have hp:W.length≠0:=fun e=>h0 (List.eq_nil_of_length_eq_zero e)
 rw [if_neg hp,show s.length+W.length=(s++W).length by simp,List.drop_left' rfl,hr.exp]
 simp
theorem Wd.int (n:Int) (h1 : -9223372036854775808≤n) (h2:n≤9223372036854775807):Wd (2,[],n,0) (tenS n):=by
 obtain ⟨s,m,hs,ht,hneg,hn⟩:∃ s m,Sgn s∧tenS n=s++decS m∧(negB (s++decS m)=true→s=[45]∧n = -(m:Int)∧m≤9223372036854775808)∧(negB (s++decS m)=false→s=[]∧n=(m:Int)∧m≤9223372036854775807):=by
  by_cases hn:n<0
  ·refine ⟨[45],(-n).toNat,.inr rfl,by unfold tenS;rw [if_pos hn];rfl,fun _=>⟨rfl,by omega,by omega⟩,fun h=>?_⟩
   rw [show negB ([45]++decS (-n).toNat)=true from rfl] at h;cases h
  ·refine ⟨[],n.toNat,.inl rfl,by unfold tenS;rw [if_neg hn];rfl,fun h=>?_,fun _=>⟨rfl,by omega,by omega⟩⟩
   exfalso
   rw [List.nil_append] at h
   cases hd:decS n.toNat with
   | nil=>exact decS_ne0 _ hd
   | cons c l =>
    rw [hd] at h
    have:=dig_nat (decS_dig n.toNat c (by rw [hd];simp))
    unfold negB at h
    simp at h
    omega
 have hW:=decS_dig m
 have h0:=decS_ne0 m
 have hm:m≤9223372036854775808:=by
  cases hb:negB (s++decS m) with
  | true=>exact (hneg hb).2.2
  | false=>have:=(hn hb).2.2;omega
 have hlen:(decS m).length≤60:=Nat.le_trans (decS_len 19 m (by omega)) (by decide)
 have hhead:∃ c l,decS m=c :: l∧isDig c=true:=by
  cases hd:decS m with
  | nil=>exact absurd hd h0
  | cons c l=>exact ⟨c,l,rfl,hW c (by rw [hd];simp)⟩
 have hsg:sgnN (s++decS m)=s.length:=hs.n hhead
 have hwhole:wholeS (s++decS m)=(n,0):=by
  unfold wholeS
  dsimp only
  rw [hsg,List.drop_left' rfl,if_neg (by omega),natB_dec]
  cases hb:negB (s++decS m) with
  | true =>
   have:=hneg hb
   rw [if_neg (by simp;omega)]
   simp [this.2.1]
  | false =>
   have:=hn hb
   rw [if_neg (by simp;omega)]
   simp [this.2.1]
 rw [ht]
 have hwb:wholeB (s++decS m)=true:=by
  unfold wholeB
  rw [hsg,List.drop_left' rfl]
  have:digN (decS m)=(decS m).length:=by
   have:=spanN_app (p:=isDig) (a:=decS m) (b:=[]) hW (.inl rfl)
   rwa [List.append_nil] at this
  rw [this];simp
 have hne:∃ c l,s++decS m=c :: l∧isWhS c=false∧c≠35∧c≠47∧(isLetS c || decide (c.toNat=95))=false∧(isDig c || decide (c.toNat=43) || decide (c.toNat=45) || decide (c.toNat=46))=true:=by
  rcases hs with rfl | rfl
  ·obtain ⟨c,l,e,hc⟩:=hhead
   have:=dig_nat hc
   refine ⟨c,l,by rw [List.nil_append,e],?_,?_,?_,?_,by rw [hc];rfl⟩
   ·unfold isWhS;simp;omega
   ·intro e';subst e';revert hc;decide
   ·intro e';subst e';revert hc;decide
   ·unfold isLetS;simp;omega
  ·exact ⟨45,decS m,rfl,by decide,by decide,by decide,by decide,by decide⟩
 obtain ⟨c,l,e,a1,a2,a3,a4,a5⟩:=hne
 refine ⟨by rw [e];simp,(show (2:Nat)≠6 by decide),fun r hr=>⟨⟨2,[],n,0,0⟩,?_,rfl⟩,c,l,e,a1,a2,a3⟩
 have hnum:numberS ((s++decS m)++r)=(0,⟨2,[],n,0,0⟩,(s++decS m).length):=by
  unfold numberS
  rw [List.append_assoc,hex_no hs hW h0 (hr.imp id fun ⟨c,l,e,k⟩=>⟨c,l,e,(nm_dig k).2.2.2.2⟩),decN_int hs hW h0 hr]
  have hp:s.length+(decS m).length≠0:=fun e=>h0 (List.eq_nil_of_length_eq_zero (by omega))
  rw [if_neg (by simp),if_neg hp,← List.append_assoc,show s.length+(decS m).length=(s++decS m).length by simp,List.take_left' rfl,hwb,hwhole]
  rfl
 rw [e] at hnum ⊢
 show (if _ then _ else _)=_
 rw [if_neg (by rw [a4];simp),if_pos a5]
 exact hnum
end Go.Proofs.YteclejplbphkpaaGreat
namespace Go.Proofs.YteclejplbphkpaaGreat
def Digs (l:List UInt8):Prop:=(∀ c ∈ l,isDig c=true)∧l≠[]
theorem Digs.head {l:List UInt8} (h:Digs l) (r:List UInt8):∃ c t,l++r=c :: t∧isDig c=true:=by
 cases l with
 | nil=>exact absurd rfl h.2
 | cons c l=>exact ⟨c,l++r,rfl,h.1 c (by simp)⟩
theorem Digs.n {l:List UInt8} (h:Digs l) {r:List UInt8} (hr:r=[]∨∃ c t,r=c :: t∧isDig c=false):digN (l++r)=l.length:=spanN_app h.1 hr
theorem Digs.ne {l:List UInt8} (h:Digs l):l.length≠0:=fun e=>h.2 (List.eq_nil_of_length_eq_zero e)
theorem Digs.dec (n:Nat):Digs (decS n):=⟨decS_dig n,decS_ne0 n⟩
structure Dbl (s W F z E:List UInt8):Prop where
 s:Sgn s
 W:Digs W
 F:Digs F
 z:Sgn z
 E:Digs E
def dblT (s W F z E:List UInt8):List UInt8:=s++(W++(46 :: (F++(101 :: (z++E)))))
theorem Dbl.decN {s W F z E r:List UInt8} (h:Dbl s W F z E) (hr:Bd r):decN (dblT s W F z E++r)=(dblT s W F z E).length:=by
 have e0:dblT s W F z E++r=s++(W++(46 :: (F++(101 :: (z++(E++r)))))):=by simp [dblT]
 have hF:digN (F++(101 :: (z++(E++r))))=F.length:=h.F.n (.inr ⟨101,_,rfl,by decide⟩)
 have hW:digN (W++(46 :: (F++(101 :: (z++(E++r))))))=W.length:=h.W.n (.inr ⟨46,_,rfl,by decide⟩)
 have hE:digN (E++r)=E.length:=h.E.n hr.dig
 have hfr:fracN (46 :: (F++(101 :: (z++(E++r)))))=F.length+1:=by
  unfold fracN
  dsimp only
  rw [hF,if_pos ⟨by decide,h.F.ne⟩]
 have hex:expN (101 :: (z++(E++r)))=1+z.length+E.length:=by
  unfold expN
  dsimp only
  rw [h.z.n (h.E.head r),List.drop_left' rfl,hE,if_pos ⟨.inl (by decide),h.E.ne⟩]
 rw [e0]
 unfold Go.Proofs.YteclejplbphkpaaGreat.decN
 dsimp only
 rw [h.s.n (h.W.head _),List.drop_left' rfl,hW]
 have d1:(s++(W++(46 :: (F++(101 :: (z++(E++r))))))).drop (s.length+W.length)=46 :: (F++(101 :: (z++(E++r)))):=by
  rw [← List.append_assoc,← List.length_append,List.drop_left' rfl]
 rw [d1,hfr]
 have hp:W.length+(F.length+1)≠0:=by omega
 rw [if_neg hp]
 have d2:(s++(W++(46 :: (F++(101 :: (z++(E++r))))))).drop (s.length+(W.length+(F.length+1)))=101 :: (z++(E++r)):=by
  have:s++(W++(46 :: (F++(101 :: (z++(E++r))))))=(s++(W++(46 :: F)))++(101 :: (z++(E++r))):=by simp
  rw [this,show s.length+(W.length+(F.length+1))=(s++(W++(46 :: F))).length by simp,List.drop_left' rfl]
 rw [d2,hex]
 simp [dblT]
 omega
theorem Wd.dbl {s W F z E:List UInt8} (h:Dbl s W F z E) {B:Nat} (hB:parseS (dblT s W F z E)=(B,0)):Wd (3,[],0,B) (dblT s W F z E):=by
 have hne:∃ c l,dblT s W F z E=c :: l∧isWhS c=false∧c≠35∧c≠47∧(isLetS c || decide (c.toNat=95))=false∧(isDig c || decide (c.toNat=43) || decide (c.toNat=45) || decide (c.toNat=46))=true:=by
  rcases h.s with rfl | rfl
  ·obtain ⟨c,l,e,hc⟩:=h.W.head (46 :: (F++(101 :: (z++E))))
   have:=dig_nat hc
   refine ⟨c,l,by unfold dblT;rw [List.nil_append,e],?_,?_,?_,?_,by rw [hc];rfl⟩
   ·unfold isWhS;simp;omega
   ·intro e';subst e';revert hc;decide
   ·intro e';subst e';revert hc;decide
   ·unfold isLetS;simp;omega
  ·exact ⟨45,_,rfl,by decide,by decide,by decide,by decide,by decide⟩
 have hwb:wholeB (dblT s W F z E)=false:=by
  unfold wholeB dblT
  rw [h.s.n (h.W.head _),List.drop_left' rfl,h.W.n (.inr ⟨46,_,rfl,by decide⟩)]
  simp
 obtain ⟨c,l,e,a1,a2,a3,a4,a5⟩:=hne
 refine ⟨by rw [e];simp,(show (3:Nat)≠6 by decide),fun r hr=>⟨⟨3,[],0,B,0⟩,?_,rfl⟩,c,l,e,a1,a2,a3⟩
 have hnum:numberS (dblT s W F z E++r)=(0,⟨3,[],0,B,0⟩,(dblT s W F z E).length):=by
  have hx:hexN (dblT s W F z E++r)=0:=by
   have e0:dblT s W F z E++r=s++(W++(46 :: (F++(101 :: (z++(E++r)))))):=by simp [dblT]
   rw [e0]
   exact hex_no h.s h.W.1 h.W.2 (.inr ⟨46,_,rfl,by decide⟩)
  unfold numberS
  rw [hx,h.decN hr]
  have hp:(dblT s W F z E).length≠0:=by rw [e];simp
  rw [if_neg (by simp),if_neg hp,List.take_left' rfl,hwb,hB]
  rfl
 rw [e] at hnum ⊢
 show (if _ then _ else _)=_
 rw [if_neg (by rw [a4];simp),if_pos a5]
 exact hnum
end Go.Proofs.YteclejplbphkpaaGreat
namespace Go.Proofs.YteclejplbphkpaaGreat
structure NameT (t:List UInt8):Prop where
 head:∃ c r,t=c :: r∧(isLetS c || decide (c.toNat=95))=true
 all:∀ c ∈ t,isNmS c=true
 len:t.length≤120
 dots:dotBad t=false
inductive TokOk:Nat×List UInt8×Int×Nat→Prop where
 | name {t:List UInt8} (h:NameT t):TokOk (1,t,0,0)
 | int (n:Int) (h1 : -9223372036854775808≤n) (h2:n≤9223372036854775807):TokOk (2,[],n,0)
 | dbl (B:Nat) (w:List UInt8) (h:parseS w=(B,0)):TokOk (3,[],0,B)
 | text (q:UInt8) (s:List UInt8) (hq:q=34∨q=39) (h1:∀ c ∈ s,c≠q) (h2:∀ c ∈ s,c≠10):TokOk (4,s,0,0)
 | sign (c:UInt8) (h:signsL.contains c=true):TokOk (5,[c],0,0)
 | fin:TokOk (6,[],0,0)
theorem name_ok {l:List UInt8} (hc:∃ c r,l=c :: r∧(isLetS c || decide (c.toNat=95))=true) (h:(nameS l).1=0):TokOk (bare (nameS l).2.1):=by
 unfold nameS at h ⊢
 split
 ·rename_i h1;rw [if_pos h1] at h;cases h
 ·rename_i h1
  rw [if_neg h1] at h
  split
  ·rename_i h2;rw [if_pos h2] at h;cases h
  ·rename_i h2
   refine .name ⟨?_,spanN_take _ _,?_,by simpa using h2⟩
   ·obtain ⟨c,r,rfl,hc⟩:=hc
    have hn:isNmS c=true:=by
     unfold isNmS
     rw [Bool.or_eq_true] at hc
     rcases hc with hc | hc
     ·rw [hc];rfl
     ·simp [hc]
    refine ⟨c,r.take (spanN isNmS r),?_,hc⟩
    have:spanN isNmS (c :: r)=spanN isNmS r+1:=if_pos hn
    rw [this,List.take_succ_cons]
   ·rw [List.length_take];omega
theorem whole_ok (l:List UInt8) (h:(wholeS l).2=0) : -9223372036854775808≤(wholeS l).1∧(wholeS l).1≤9223372036854775807:=by
 unfold wholeS
 dsimp only
 by_cases h1:60<(l.drop (sgnN l)).length
 ·rw [if_pos h1];exact ⟨by omega,by omega⟩
 ·rw [if_neg h1]
  by_cases h2:(if negB l then 9223372036854775808 else 9223372036854775807)<natB 10 (l.drop (sgnN l))
  ·rw [if_pos h2];exact ⟨by omega,by omega⟩
  ·rw [if_neg h2]
   cases hb:negB l <;> rw [hb] at h2 <;> simp at h2 ⊢ <;> omega
theorem hex_ok (l:List UInt8) : -9223372036854775808≤(hexS l).1∧(hexS l).1≤9223372036854775807:=by
 unfold hexS
 split
 ·exact ⟨by omega,by omega⟩
 ·split
  ·exact ⟨by omega,by omega⟩
  ·exact ⟨by omega,by omega⟩
theorem number_ok {l:List UInt8} (h:(numberS l).1=0):TokOk (bare (numberS l).2.1):=by
 unfold numberS at h ⊢
 split
 ·exact .int _ (hex_ok _).1 (hex_ok _).2
 ·rename_i h1
  rw [if_neg h1] at h
  split
  ·rename_i h2;rw [if_pos h2] at h;cases h
  ·rename_i h2
   rw [if_neg h2] at h
   split
   ·rename_i h3
    rw [if_pos h3] at h
    exact .int _ (whole_ok _ h).1 (whole_ok _ h).2
   ·rename_i h3
    rw [if_neg h3] at h
    exact .dbl _ _ (Prod.ext rfl h)
theorem quoted_ok {q:UInt8} {r:List UInt8} (hq:q=34∨q=39) (h:(quotedS q r).1=0):TokOk (bare (quotedS q r).2.1):=by
 unfold quotedS at h ⊢
 split
 ·rename_i h1;rw [if_pos h1] at h;cases h
 ·rename_i h1
  refine .text q _ hq (fun c hc=>?_) (fun c hc=>?_)
  ·have:=spanN_take (fun c=>decide (c≠q)) r c hc
   simpa using this
  ·have hle:quoteN q r≤lineN r:=by omega
   have hm:c ∈ r.take (lineN r):=by
    rw [show r.take (quoteN q r)=(r.take (lineN r)).take (quoteN q r) by rw [List.take_take,Nat.min_eq_left hle]] at hc
    exact List.mem_of_mem_take hc
   have:=spanN_take (fun c=>decide (c≠10)) r c hm
   simpa using this
theorem first_ok (l:List UInt8) (h:(firstS l).1=0):TokOk (bare (firstS l).2.1):=by
 cases l with
 | nil=>exact .fin
 | cons c r =>
  have e:firstS (c :: r)=if isLetS c || decide (c.toNat=95) then nameS (c :: r)
   else if isDig c || decide (c.toNat=43) || decide (c.toNat=45) || decide (c.toNat=46) then numberS (c :: r)
   else if c.toNat=34∨c.toNat=39 then quotedS c r
   else if signsL.contains c then (0,⟨5,[c],0,0,0⟩,1) else (2,tok0,0):=rfl
  rw [e] at h ⊢
  by_cases h1:(isLetS c || decide (c.toNat=95))=true
  ·rw [if_pos h1] at h ⊢
   exact name_ok ⟨c,r,rfl,h1⟩ h
  ·rw [if_neg h1] at h ⊢
   by_cases h2:(isDig c || decide (c.toNat=43) || decide (c.toNat=45) || decide (c.toNat=46))=true
   ·rw [if_pos h2] at h ⊢
    exact number_ok h
   ·rw [if_neg h2] at h ⊢
    by_cases h3:c.toNat=34∨c.toNat=39
    ·rw [if_pos h3] at h ⊢
     exact quoted_ok (h3.imp (fun e=>UInt8.toNat_inj.1 e) (fun e=>UInt8.toNat_inj.1 e)) h
    ·rw [if_neg h3] at h ⊢
     by_cases h4:signsL.contains c=true
     ·rw [if_pos h4] at h ⊢
      exact .sign c h4
     ·rw [if_neg h4] at h;cases h
theorem next_ok (o:Nat) (l:List UInt8) (h:(nextS o l).1=0):TokOk (bare (nextS o l).2.2.1):=by
 unfold nextS at h ⊢
 split
 ·rename_i h1;rw [if_pos h1] at h;cases h
 ·rename_i h1
  rw [if_neg h1] at h
  split
  ·rename_i h2;rw [if_pos h2] at h;exact absurd h h2
  ·rename_i h2
   show TokOk (bare (wordS (l.drop (skipS l).1)).2.2.1)
   generalize l.drop (skipS l).1=m at h2 ⊢
   have h3:(wordS m).1=0:=by simpa using h2
   unfold wordS at h3 ⊢
   split
   ·rename_i h4;rw [if_pos h4] at h3;exact absurd h3 h4
   ·rename_i h4
    rw [if_neg h4] at h3
    split
    ·rename_i h5;rw [if_pos h5] at h3;cases h3
    ·exact first_ok m (by simpa using h4)
theorem lexF_ok:∀ (f o:Nat) (l:List UInt8),(lexF f o l).2.1=0→∀ x ∈ (lexF f o l).1,TokOk (bare x)
 | 0,_,_,_=>fun x h=>by cases h
 | f+1,o,l,h=>by
  have ih:=lexF_ok f (o+(nextS o l).2.2.2) (l.drop (nextS o l).2.2.2)
  unfold lexF at h ⊢
  intro x hx
  split at hx
  ·cases hx
  ·rename_i h1
   have hn:=next_ok o l (by simpa using h1)
   rw [if_neg h1] at h
   split at hx
   ·simp at hx;subst hx;exact hn
   ·rename_i h2
    rw [if_neg h2] at h
    split at hx
    ·rename_i h3;rw [if_pos h3] at h;exact absurd h h3
    ·rename_i h3
     rcases List.mem_cons.1 hx with rfl | hx
     ·exact hn
     ·exact ih (by simpa using h3) x hx
theorem lex_tok_ok (l:List UInt8) (h:(lexS l).2.1=0):∀ x ∈ (lexS l).1,TokOk (bare x):=by
 unfold lexS at h ⊢
 split
 ·intro x hx;cases hx
 ·rename_i h1
  rw [if_neg h1] at h
  exact lexF_ok _ _ _ h
end Go.Proofs.YteclejplbphkpaaGreat
namespace Go.Proofs.YteclejplbphkpaaGreat
def gap6:Nat→List UInt8
 | 0=>[32]
 | 1=>[10]
 | 2=>[9,32,13]
 | 3=>[47,42,32,97,32,42,47]
 | 4=>[35,32,120,10]
 | _=>[47,47,32,121,10]
theorem lineN_cut (a r:List UInt8) (h:∀ c ∈ a,c≠10):lineN (a++10 :: r)=a.length :=
 spanN_app (fun c hc=>by simpa using h c hc) (.inr ⟨10,r,rfl,by decide⟩)
theorem Sk.gap6_ (k:Nat):Sk (gap6 k):=by
 unfold gap6
 split
 ·exact Sk.white (by decide)
 ·exact Sk.white (by decide)
 ·exact Sk.white (by decide)
 ·have:=Sk.gap (g:=[47,42,32,97,32,42,47]) (s:=[]) Sk.none_ (by decide) (fun r=>.inl rfl)
  simpa using this
 ·exact Sk.gap (g:=[35,32,120]) (s:=[10]) (Sk.white (by decide)) (by decide) (fun r=>.inl (by
   have h:=lineN_cut [35,32,120] r (by decide)
   show gapS (35 :: ([32,120]++10 :: r))=_
   unfold gapS;dsimp only
   rw [if_pos (.inl rfl)]
   exact Prod.ext h rfl))
 ·exact Sk.gap (g:=[47,47,32,121]) (s:=[10]) (Sk.white (by decide)) (by decide) (fun r=>.inl (by
   have h:=lineN_cut [47,47,32,121] r (by decide)
   show gapS (47 :: ([47,32,121]++10 :: r))=_
   unfold gapS;dsimp only
   rw [if_pos (.inr ⟨rfl,rfl⟩)]
   exact Prod.ext h rfl))
theorem gap6_bd (k:Nat) (r:List UInt8):Bd (gap6 k++r):=by
 unfold gap6
 split <;> exact Bd.of (by decide)
end Go.Proofs.YteclejplbphkpaaGreat
namespace Go.Proofs.YteclejplbphkpaaGreat
theorem tenS_shape (n:Int):∃ z E,tenS n=z++E∧Sgn z∧Digs E:=by
 unfold tenS
 split
 ·exact ⟨[45],_,rfl,.inr rfl,Digs.dec _⟩
 ·exact ⟨[],_,rfl,.inl rfl,Digs.dec _⟩
theorem trim_mem (l:List UInt8) (c:UInt8) (h:c ∈ Lib.trimRightB l 48):c ∈ l:=by
 unfold Lib.trimRightB at h
 have h1:=List.mem_reverse.1 h
 exact List.mem_reverse.1 ((List.dropWhile_suffix _).subset h1)
theorem tailS_digs (l:List UInt8) (h:∀ c ∈ l,isDig c=true):Digs (tailS l):=by
 unfold tailS
 split
 ·exact ⟨by decide,by decide⟩
 ·rename_i h1
  exact ⟨fun c hc=>h c (trim_mem _ _ hc),h1⟩
theorem sgS_sg (B:Nat):Sgn (sgS B):=by
 unfold sgS
 split
 ·exact .inr rfl
 ·exact .inl rfl
theorem showR_shape {B:Nat} {l:List UInt8} (h:ShowR B l) (hfin:B % 9223372036854775808<LIM):∃ s W F z E,Dbl s W F z E∧l=dblT s W F z E:=by
 unfold ShowR at h
 rw [if_neg (by omega)] at h
 split at h
 ·exact ⟨sgS B,[48],[48],[],[48],⟨sgS_sg B,⟨by decide,by decide⟩,⟨by decide,by decide⟩,.inl rfl,⟨by decide,by decide⟩⟩,h⟩
 ·obtain ⟨T,_,_,rfl⟩:=h
  generalize digQ _ _ T=D
  obtain ⟨z,E,e,hz,hE⟩:=tenS_shape (T+((decS D).length:Nat) - 17)
  refine ⟨sgS B,(decS D).take 1,tailS ((decS D).drop 1),z,E,⟨sgS_sg B,⟨fun c hc=>decS_dig D c (List.mem_of_mem_take hc),?_⟩,tailS_digs _ (fun c hc=>decS_dig D c (List.mem_of_mem_drop hc)),hz,hE⟩,?_⟩
  ·have:=decS_ne0 D
   cases hd:decS D with
   | nil=>exact absurd hd this
   | cons a b=>simp
  ·unfold showD dblT
   rw [e]
theorem Wd.shown {B:Nat} {l:List UInt8} (h:ShowR B l) (hfin:B % 9223372036854775808<LIM) (hb:parseS l=(B,0)):Wd (3,[],0,B) l:=by
 obtain ⟨s,W,F,z,E,hd,rfl⟩:=showR_shape h hfin
 exact Wd.dbl hd hb
theorem parse_fin {w:List UInt8} {B:Nat} (h:parseS w=(B,0)):B<18446744073709551616∧B % 9223372036854775808<LIM:=by
 unfold parseS at h
 dsimp only at h
 have hL:LIM=9218868437227405312:=rfl
 split at h
 ·cases h
 ·split at h
  ·cases h
  ·split at h
   ·cases h
   ·split at h
    ·cases h
    ·split at h
     ·rename_i h1
      have e:_=B:=congrArg Prod.fst h
      dsimp only at e
      split at e <;> omega
     ·cases h
def quoT (s:List UInt8):List UInt8:=if s.contains 34 then 39 :: (s++[39]) else 34 :: (s++[34])
theorem Wd.quo {q:UInt8} {s:List UInt8} (hq:q=34∨q=39) (h1:∀ c ∈ s,c≠q) (h2:∀ c ∈ s,c≠10):Wd (4,s,0,0) (quoT s):=by
 unfold quoT
 split
 ·rename_i h
  rcases hq with rfl | rfl
  ·exact absurd rfl (h1 34 (List.contains_iff_mem.1 h))
  ·exact Wd.text (.inr rfl) h1 h2
 ·rename_i h
  refine Wd.text (.inl rfl) (fun c hc e=>h ?_) h2
  subst e
  exact List.contains_iff_mem.2 hc
def wordT (sh:Nat→List UInt8) (v:Nat×List UInt8×Int×Nat):List UInt8 :=
 if v.1=1∨v.1=5 then v.2.1 else if v.1=2 then tenS v.2.2.1 else if v.1=3 then sh v.2.2.2 else if v.1=4 then quoT v.2.1 else []
theorem TokOk.wd {sh:Nat→List UInt8} (hs:∀ B,B<18446744073709551616→B % 9223372036854775808<LIM→ShowR B (sh B)∧parseS (sh B)=(B,0)) {v:Nat×List UInt8×Int×Nat} (h:TokOk v) (hv:v.1≠6):Wd v (wordT sh v):=by
 cases h with
 | name h=>exact Wd.name h.head h.all h.len h.dots
 | int n h1 h2=>exact Wd.int n h1 h2
 | dbl B w h =>
  obtain ⟨h1,h2⟩:=parse_fin h
  obtain ⟨h3,h4⟩:=hs B h1 h2
  exact Wd.shown h3 h2 h4
 | text q s hq h1 h2=>exact Wd.quo hq h1 h2
 | sign c h=>exact Wd.sign h
 | fin=>exact absurd rfl hv
end Go.Proofs.YteclejplbphkpaaGreat
namespace Go.Proofs.YteclejplbphkpaaGreat
theorem white_ne {c:UInt8} (hw:isWhS c=true):c≠35∧c≠47:=by
 constructor <;> (rintro rfl;revert hw;decide)
theorem gapS_white {c:UInt8} (hw:isWhS c=true) (l:List UInt8):gapS (c :: l)=(spanN isWhS l+1,true):=by
 have hne:=white_ne hw
 unfold gapS
 dsimp only
 rw [if_neg (fun h=>h.elim hne.1 (fun h=>hne.2 h.1)),if_neg (fun h=>hne.2 h.1)]
 have:spanN isWhS (c :: l)=spanN isWhS l+1:=if_pos hw
 rw [this]
theorem skip_whiteL {c:UInt8} (hc:isWhS c=true) (l:List UInt8):skipS (c :: l)=((skipS l).1+1,(skipS l).2):=by
 rw [skipS_step,gapS_white hc,if_neg (by simp)]
 rw [show (c :: l).drop ((spanN isWhS l+1,true):Nat×Bool).1=l.drop (spanN isWhS l) from rfl]
 by_cases h0:spanN isWhS l=0
 ·rw [h0,List.drop_zero]
  simp [Nat.add_comm]
 ·cases l with
  | nil=>exact absurd rfl h0
  | cons d r =>
   have hw:isWhS d=true:=by
    cases hc:isWhS d
    ·exfalso;apply h0;unfold spanN;rw [hc];rfl
    ·rfl
   have e:spanN isWhS (d :: r)=spanN isWhS r+1:=if_pos hw
   rw [skipS_step (d :: r),gapS_white hw,if_neg (by simp),e]
   simp
   omega
theorem next_white {c:UInt8} (hc:isWhS c=true) (o:Nat) (l:List UInt8):(nextS o (c :: l)).1=(nextS (o+1) l).1∧(nextS o (c :: l)).2.1=(nextS (o+1) l).2.1∧(nextS o (c :: l)).2.2.1=(nextS (o+1) l).2.2.1 ∧
  ((nextS (o+1) l).1=0→(nextS o (c :: l)).2.2.2=(nextS (o+1) l).2.2.2+1):=by
 unfold nextS
 rw [skip_whiteL hc l]
 dsimp only
 rw [show (c :: l).drop ((skipS l).1+1)=l.drop (skipS l).1 from rfl]
 have e1:o+((skipS l).1+1)=o+1+(skipS l).1:=by omega
 rw [e1]
 split
 ·exact ⟨rfl,rfl,rfl,fun h=>by cases h⟩
 ·split
  ·rename_i h
   exact ⟨rfl,rfl,rfl,fun h2=>absurd h2 h⟩
  ·refine ⟨rfl,rfl,rfl,fun _=>?_⟩
   dsimp only
   omega
theorem lexF_white {c:UInt8} (hc:isWhS c=true) (f o:Nat) (l:List UInt8):lexF (f+1) o (c :: l)=lexF (f+1) (o+1) l:=by
 obtain ⟨h1,h2,h3,h4⟩:=next_white hc o l
 unfold lexF
 rw [h1,h2,h3]
 split
 ·rfl
 ·rename_i h
  have h5:=h4 (by simpa using h)
  rw [h5]
  rw [show (c :: l).drop ((nextS (o+1) l).2.2.2+1)=l.drop (nextS (o+1) l).2.2.2 from rfl]
  rw [show o+((nextS (o+1) l).2.2.2+1)=o+1+(nextS (o+1) l).2.2.2 by omega]
theorem Lxs.white {c:UInt8} (hc:isWhS c=true) {l:List UInt8} {vs:List (Nat×List UInt8×Int×Nat)} (h:Lxs l vs):Lxs (c :: l) vs:=by
 intro f o hf
 cases f with
 | zero=>simp at hf
 | succ f =>
  rw [lexF_white hc]
  exact h _ _ (by simp at hf;omega)
theorem Lxs.word {t r:List UInt8} {v:Nat×List UInt8×Int×Nat} {vs:List (Nat×List UInt8×Int×Nat)} (hp:0<t.length) (h6:v.1≠6) (ha:∃ c r,t=c :: r∧isWhS c=false∧c≠35∧c≠47)
  (hw:∃ x,wordS (t++r)=(0,0,x,t.length)∧bare x=v) (h:Lxs r vs):Lxs (t++r) (v :: vs):=fun f o hf=>by
 cases f with
 | zero=>omega
 | succ f =>
  obtain ⟨c,t',e,a1,a2,a3⟩:=ha
  have h1:=Sk.none_ (t++r) (.inr ⟨c,t'++r,by rw [e];rfl,a1,a2,a3⟩)
  rw [List.nil_append] at h1
  obtain ⟨x,h2,h3⟩:=hw
  have h4:nextS o (t++r)=(0,0,{ x with p:=o },t.length):=by
   unfold nextS
   rw [h1]
   dsimp only
   rw [if_neg (by simp),List.length_nil,List.drop_zero,h2]
   simp
  simp only [List.length_append] at hf
  obtain ⟨ts,h5,h6'⟩:=h f (o+t.length) (by omega)
  have hx:x.k=v.1:=by rw [← h3];rfl
  refine ⟨{ x with p:=o } :: ts,?_,?_⟩
  ·show (if _ then _ else _)=_
   rw [h4]
   dsimp only
   rw [if_neg (by simp),if_neg (by rw [hx];exact h6),List.drop_left' rfl,h5]
   rfl
  ·rw [List.map_cons,h6']
   show (x.k,x.t,x.n,x.d) :: _=_
   rw [show (x.k,x.t,x.n,x.d)=v from h3];rfl
abbrev Vs:=List (Nat×List UInt8×Int×Nat)
def P0 (a:List UInt8) (vs:Vs):Prop:=∀ r ws,Lxs r ws→Lxs (a++r) (vs++ws)
def P1 (a:List UInt8) (vs:Vs):Prop:=∀ r ws,Bd r→Lxs r ws→Lxs (a++r) (vs++ws)
def Hd (a:List UInt8):Prop:=∃ c r,a=c :: r∧isNmS c=false
theorem Hd.bd {a:List UInt8} (h:Hd a) (r:List UInt8):Bd (a++r):=by
 obtain ⟨c,l,rfl,h⟩:=h
 exact Bd.of h
theorem Hd.app {a:List UInt8} (h:Hd a) (r:List UInt8):Hd (a++r):=by
 obtain ⟨c,l,rfl,h⟩:=h
 exact ⟨c,l++r,rfl,h⟩
theorem P0.p1 {a:List UInt8} {vs:Vs} (h:P0 a vs):P1 a vs:=fun r ws _ hr=>h r ws hr
theorem P0.nil_:P0 [] []:=fun _ _ h=>h
theorem P0.then0 {a b:List UInt8} {vs us:Vs} (h:P0 a vs) (k:P0 b us):P0 (a++b) (vs++us):=fun r ws hr=>by
 rw [List.append_assoc,List.append_assoc];exact h _ _ (k _ _ hr)
theorem P0.then1 {a b:List UInt8} {vs us:Vs} (h:P0 a vs) (k:P1 b us):P1 (a++b) (vs++us):=fun r ws hb hr=>by
 rw [List.append_assoc,List.append_assoc];exact h _ _ (k _ _ hb hr)
theorem P1.then0 {a b:List UInt8} {vs us:Vs} (h:P1 a vs) (hb:Hd b) (k:P0 b us):P0 (a++b) (vs++us):=fun r ws hr=>by
 rw [List.append_assoc,List.append_assoc];exact h _ _ (hb.bd r) (k _ _ hr)
theorem P1.then1 {a b:List UInt8} {vs us:Vs} (h:P1 a vs) (hb:Hd b) (k:P1 b us):P1 (a++b) (vs++us):=fun r ws hr hl=>by
 rw [List.append_assoc,List.append_assoc];exact h _ _ (hb.bd r) (k _ _ hr hl)
theorem P0.white {a:List UInt8} (h:∀ c ∈ a,isWhS c=true):P0 a []:=fun r ws hr=>by
 induction a with
 | nil=>exact hr
 | cons c a ih=>exact Lxs.white (h c (by simp)) (ih (fun d hd=>h d (by simp [hd])))
theorem P1.wd {v:Nat×List UInt8×Int×Nat} {t:List UInt8} (h:Wd v t):P1 t [v]:=fun r ws hb hr=>Lxs.word h.pos h.notEnd h.ahead (h.word hb) hr
theorem P0.sign {c:UInt8} (h:signsL.contains c=true):P0 [c] [(5,[c],0,0)]:=fun r ws hr=>by
 have hw:=Wd.sign h
 refine Lxs.word hw.pos hw.notEnd hw.ahead ?_ hr
 refine ⟨⟨5,[c],0,0,0⟩,?_,rfl⟩
 have hm:c ∈ signsL:=List.contains_iff_mem.1 h
 unfold signsL at hm
 simp only [List.mem_cons,List.not_mem_nil,or_false] at hm
 rcases hm with rfl | rfl | rfl | rfl | rfl | rfl | rfl | rfl | rfl | rfl | rfl | rfl | rfl <;> rfl
theorem P0.flat {α:Type} {f:α→List UInt8} {g:α→Vs}:∀ (l:List α),(∀ x ∈ l,P0 (f x) (g x))→P0 (l.flatMap f) (l.flatMap g)
 | [],_=>P0.nil_
 | x :: l,h=>by
  rw [List.flatMap_cons,List.flatMap_cons]
  exact (h x (by simp)).then0 (P0.flat l (fun y hy=>h y (by simp [hy])))
theorem P0.whole {a:List UInt8} {vs:Vs} (h:P0 a vs):Lxs a vs:=by
 have:=h [] [] (Lxs.end_ Sk.none_)
 rwa [List.append_nil,List.append_nil] at this
theorem Lxs.same {l:List UInt8} {vs us:Vs} (h:Lxs l vs) (e:vs=us):Lxs l us:=e ▸ h
theorem P0.same {l:List UInt8} {vs us:Vs} (h:P0 l vs) (e:vs=us):P0 l us:=e ▸ h
theorem P1.same {l:List UInt8} {vs us:Vs} (h:P1 l vs) (e:vs=us):P1 l us:=e ▸ h
end Go.Proofs.YteclejplbphkpaaGreat
namespace Go.Proofs.YteclejplbphkpaaGreat
def sgW (c:UInt8):Nat×List UInt8×Int×Nat:=(5,[c],0,0)
def nmW (t:List UInt8):Nat×List UInt8×Int×Nat:=(1,t,0,0)
def All1:List (List UInt8)→List Vs→Prop
 | [],[]=>True
 | a :: az,v :: vs=>P1 a v∧All1 az vs
 | _,_=>False
theorem All1.map {α:Type} {f:α→List UInt8} {g:α→Vs}:∀ (l:List α),(∀ x ∈ l,P1 (f x) (g x))→All1 (l.map f) (l.map g)
 | [],_=>trivial
 | x :: l,h=>⟨h x (by simp),All1.map l (fun y hy=>h y (by simp [hy]))⟩
def commaV:List Vs→Vs
 | []=>[]
 | [x]=>x
 | x :: y :: r=>x++[sgW 44]++commaV (y :: r)
def pairsV:List Vs→List Vs
 | a :: b :: r=>(a++[sgW 58]++b) :: pairsV r
 | _=>[]
theorem P0.signSp {c:UInt8} (h:signsL.contains c=true):P0 [c,32] [sgW c]:=(P0.sign h).then0 (P0.white (a:=[32]) (by decide))
theorem comma_p1:∀ {az:List (List UInt8)} {vs:List Vs},All1 az vs→P1 (commaF az) (commaV vs)
 | [],[],_=>P0.nil_.p1
 | [_],[_],h=>h.1
 | a :: b :: az,v :: u :: vs,h=>(h.1.then0 (b:=[44,32]) ⟨44,[32],rfl,by decide⟩ (P0.signSp (by decide))).then1 (comma_p1 h.2)
 | [],_ :: _,h=>h.elim
 | _ :: _,[],h=>h.elim
 | [_],_ :: _ :: _,h=>h.2.elim
 | _ :: _ :: _,[_],h=>h.2.elim
theorem pairs_all:∀ {az:List (List UInt8)} {vs:List Vs},All1 az vs→All1 (pairsF az) (pairsV vs)
 | [],[],_=>trivial
 | [_],[_],_=>trivial
 | a :: b :: az,v :: u :: vs,h=>⟨(h.1.then0 (b:=[58,32]) ⟨58,[32],rfl,by decide⟩ (P0.signSp (by decide))).then1 h.2.1,pairs_all h.2.2⟩
 | [],_ :: _,h=>h.elim
 | _ :: _,[],h=>h.elim
 | [_],_ :: _ :: _,h=>h.2.elim
 | _ :: _ :: _,[_],h=>h.2.elim
def constV:Nat→Con→Vs
 | 0,_=>[]
 | n+1,.mk k i d s l =>
  if k=1 then [(2,[],i,0)] else if k=2 then [(3,[],0,d)] else if k=3 then [(4,s,0,0)] else if k=4 then [nmW s]
  else if k=5 then sgW 91 :: (commaV (l.map (constV n))++[sgW 93]) else sgW 123 :: (commaV (pairsV (l.map (constV n)))++[sgW 125])
def wfC:Nat→Con→Prop
 | 0,_=>False
 | n+1,.mk k i d s l =>
  (k=1→-9223372036854775808≤i∧i≤9223372036854775807)∧(k=2→d<18446744073709551616∧d % 9223372036854775808<LIM) ∧
  (k=3→∃ q,(q=34∨q=39)∧(∀ c ∈ s,c≠q)∧∀ c ∈ s,c≠10)∧(k=4→NameT s)∧∀ y ∈ l,wfC n y
theorem P1.name {t:List UInt8} (h:NameT t):P1 t [nmW t]:=P1.wd (Wd.name h.head h.all h.len h.dots)
theorem P1.int {n:Int} (h1 : -9223372036854775808≤n) (h2:n≤9223372036854775807):P1 (tenS n) [(2,[],n,0)]:=P1.wd (Wd.int n h1 h2)
theorem P1.between {a:List UInt8} {vs:Vs} {o c:UInt8} (h:P1 a vs) (ho:signsL.contains o=true) (hc:signsL.contains c=true) (hn:isNmS c=false):P0 (o :: (a++[c])) (sgW o :: (vs++[sgW c])) :=
 (P0.sign ho).then0 (h.then0 ⟨c,[],rfl,hn⟩ (P0.sign hc))
theorem const_p1 {sh:Nat→List UInt8} (hs:∀ B,B<18446744073709551616→B % 9223372036854775808<LIM→ShowR B (sh B)∧parseS (sh B)=(B,0)):∀ (n:Nat) (c:Con),wfC n c→P1 (constF tenS sh n c) (constV n c)
 | 0,_,h=>h.elim
 | n+1,.mk k i d s l,h=>by
  obtain ⟨h1,h2,h3,h4,h5⟩:=h
  have hl:=All1.map l (fun y hy=>const_p1 hs n y (h5 y hy))
  unfold constF constV
  by_cases k1:k=1
  ·rw [if_pos k1,if_pos k1];exact P1.int (h1 k1).1 (h1 k1).2
  ·rw [if_neg k1,if_neg k1]
   by_cases k2:k=2
   ·rw [if_pos k2,if_pos k2]
    obtain ⟨a,b⟩:=h2 k2
    obtain ⟨e,f⟩:=hs d a b
    exact P1.wd (Wd.shown e b f)
   ·rw [if_neg k2,if_neg k2]
    by_cases k3:k=3
    ·rw [if_pos k3,if_pos k3]
     obtain ⟨q,a,b,e⟩:=h3 k3
     exact P1.wd (Wd.quo a b e)
    ·rw [if_neg k3,if_neg k3]
     by_cases k4:k=4
     ·rw [if_pos k4,if_pos k4];exact P1.name (h4 k4)
     ·rw [if_neg k4,if_neg k4]
      by_cases k5:k=5
      ·rw [if_pos k5,if_pos k5]
       exact ((comma_p1 hl).between (by decide) (by decide) (by decide)).p1
      ·rw [if_neg k5,if_neg k5]
       exact ((comma_p1 (pairs_all hl)).between (by decide) (by decide) (by decide)).p1
end Go.Proofs.YteclejplbphkpaaGreat
