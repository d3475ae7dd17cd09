/- The longest number ahead, in the document's steps. Plain lemmas. What the document's lexer sees in a number. Plain lemmas. The walk of HybE, where a value may be taken out of a pair behind the store too. Plain. The contract of the document's lexer: a number in sixteens. -/
import Derived.Test.YtjggghfekakogaaGreatG20
import Derived.Test.YtjggghfekakogaaGreatG18
import Derived.Test.YtjggghfekakogaaGreatG07
import Derived.Test.YtjggghfekakogaaGreatG14
import Derived.Deep.CutBlock
import Derived.Deep.DeepCutAuto
import Derived.Deep.Light
set_option linter.unusedVariables false
set_option linter.unusedSimpArgs false
set_option linter.unnecessarySimpa false
namespace Go.Proofs.YtjggghfekakogaaGreat
open Go.RowKit
theorem sgnN_take (l:List UInt8) (n:Nat) (h:1≤n):sgnN (l.take n)=sgnN l:=by
 cases l with
 | nil=>simp
 | cons c r=>cases n with
  | zero=>omega
  | succ n=>rfl
theorem digN_cut (l:List UInt8) (n:Nat):digN (l.take n)=min (digN l) n:=spanN_cut isDig l n
structure Parts (l:List UInt8) (S D F X:Nat):Prop where
 s:sgnN l=S
 d:digN (l.drop S)=D
 f:fracN (l.drop (S+D))=F
 x:expN (l.drop (S+(D+F)))=X
 pos:D+F≠0
theorem Parts.len {l:List UInt8} {S D F X:Nat} (h:Parts l S D F X):decN l=S+(D+F)+X∧S+(D+F)+X≤l.length:=by
 have e:decN l=S+(D+F)+X:=by
  unfold decN
  dsimp only
  rw [h.s,h.d,h.f,if_neg h.pos,h.x]
 refine ⟨e,?_⟩
 rw [← e];exact decN_le l
theorem parts_of (l:List UInt8) (h:decN l≠0):∃ S D F X,Parts l S D F X:=by
 refine ⟨_,_,_,_,rfl,rfl,rfl,rfl,fun h0=>h ?_⟩
 unfold decN
 dsimp only
 rw [if_pos h0]
theorem Parts.whole {l:List UInt8} {S D F X:Nat} (h:Parts l S D F X):wholeB (l.take (decN l))=(decide (F=0) && decide (X=0)):=by
 obtain ⟨e,hl⟩:=h.len
 have hp:=h.pos
 have hD:=h.d
 unfold wholeB
 rw [e,sgnN_take l _ (by omega),h.s,List.drop_take,digN_cut,hD,List.length_take,Bool.eq_iff_iff]
 simp
 omega
def numW (l:List UInt8):Nat×Nat×TokV×Nat :=
 if (numberS l).1≠0 then ((numberS l).1,0,tok0,0) else if gosR (l.drop (numberS l).2.2) then (2,(numberS l).2.2,tok0,0) else (0,0,(numberS l).2.1,(numberS l).2.2)
theorem numW_hex (l:List UInt8) (h:hexN l≠0):numW l=sixW ((l.drop 2).take (spanN isHexS (l.drop 2))) (gosR (l.drop (2+spanN isHexS (l.drop 2)))):=by
 have hx:hexN l=2+spanN isHexS (l.drop 2):=by
  cases l with
  | nil=>exact absurd rfl h
  | cons c r=>cases r with
   | nil=>exact absurd rfl h
   | cons d r =>
    unfold hexN at h ⊢
    dsimp only at h ⊢
    split at h
    ·rename_i h1;rw [if_pos h1];rfl
    ·exact absurd rfl h
 have hl:=(hexN_le l).1
 have e1:(l.take (hexN l)).drop 2=(l.drop 2).take (spanN isHexS (l.drop 2)):=by
  rw [List.drop_take,hx];congr 1;omega
 have hlen:((l.drop 2).take (spanN isHexS (l.drop 2))).length=spanN isHexS (l.drop 2):=by
  simp;omega
 unfold numW sixW numberS
 rw [if_pos h]
 dsimp only
 rw [e1,hlen,hx]
theorem numW_dec (l:List UInt8) (h:hexN l=0) (hd:decN l≠0):numW l =
    (if (if wholeB (l.take (decN l)) then (wholeS (l.take (decN l))).2 else (parseS (l.take (decN l))).2)≠0 then ((if wholeB (l.take (decN l)) then (wholeS (l.take (decN l))).2 else (parseS (l.take (decN l))).2),0,tok0,0)
     else if gosR (l.drop (decN l)) then (2,decN l,tok0,0) else (0,0,(if wholeB (l.take (decN l)) then ⟨2,[],(wholeS (l.take (decN l))).1,0,0⟩ else ⟨3,[],0,(parseS (l.take (decN l))).1,0⟩),decN l)):=by
  have e:numberS l=if wholeB (l.take (decN l)) then ((wholeS (l.take (decN l))).2,⟨2,[],(wholeS (l.take (decN l))).1,0,0⟩,decN l)
      else ((parseS (l.take (decN l))).2,⟨3,[],0,(parseS (l.take (decN l))).1,0⟩,decN l):=by
    unfold numberS
    rw [if_neg (show ¬ hexN l≠0 by simpa using h),if_neg hd]
  unfold numW
  rw [e]
  cases wholeB (l.take (decN l)) <;> rfl
theorem expN_parts (c:UInt8) (r:List UInt8):expN (c :: r)=if (c.toNat=101∨c.toNat=69)∧hasD (r.drop (sgnN r))=true then 1+sgnN r+digN (r.drop (sgnN r)) else 0:=by
 unfold expN
 dsimp only
 rw [hasD_iff]
 simp
theorem fracN_parts (c:UInt8) (r:List UInt8):fracN (c :: r)=if c.toNat=46∧hasD r=true then 1+digN r else 0:=by
 unfold fracN
 dsimp only
 rw [hasD_iff]
 simp [Nat.add_comm]
theorem has_sign (r:List UInt8):(hasD r=true→sgnN r=0):=by
 cases r with
 | nil=>intro _;rfl
 | cons c t =>
  intro h
  have:=(isDig_iff c).1 h
  unfold sgnN;dsimp only
  rw [if_neg (by omega)]
end Go.Proofs.YtjggghfekakogaaGreat
namespace Go.Proofs.YtjggghfekakogaaGreat
open Go.RowKit
theorem hex_starts (l:List UInt8):(hexN l≠0)↔((l.head? = some 48∧(l.drop 1).head? = some 120)∧∃ c t,l.drop 2=c :: t∧isHexS c=true):=by
 match l with
 | []=>simp [hexN]
 | [x]=>simp [hexN]
 | [x,y]=>simp [hexN,spanN]
 | x :: y :: c :: t =>
  unfold hexN
  dsimp only
  have hs:spanN isHexS (c :: t)≠0↔isHexS c=true:=by
   unfold spanN
   cases isHexS c <;> simp
  by_cases h:x=48∧y=120∧spanN isHexS (c :: t)≠0
  ·rw [if_pos h]
   obtain ⟨rfl,rfl,h3⟩:=h
   simp [hs.1 h3]
  ·rw [if_neg h]
   simp only [ne_eq,not_true_eq_false,false_iff]
   rintro ⟨⟨h1,h2⟩,c',t',h3,h4⟩
   simp at h1 h2 h3
   obtain ⟨rfl,rfl⟩:=h3
   exact h ⟨h1,h2,hs.2 h4⟩
theorem hexN_two (l:List UInt8) (h:hexN l≠0):2≤hexN l:=by
 unfold hexN at h ⊢
 split at h
 ·split at h
  ·rename_i h1;rw [if_pos h1];omega
  ·exact absurd rfl h
 ·exact absurd rfl h
theorem sign_case (c:UInt8) (r:List UInt8):(c.toNat=43∧sgnN (c :: r)=1)∨(c.toNat≠43∧c.toNat=45∧sgnN (c :: r)=1)∨(c.toNat≠43∧c.toNat≠45∧sgnN (c :: r)=0):=by
 unfold sgnN
 by_cases h1:c.toNat=43
 ·exact .inl ⟨h1,by simp [h1]⟩
 ·by_cases h2:c.toNat=45
  ·exact .inr (.inl ⟨h1,h2,by simp [h2]⟩)
  ·exact .inr (.inr ⟨h1,h2,by simp [h1,h2]⟩)
theorem hex_case (s:ByteArray) (l:List UInt8) (o:Nat) (hl:Tx s l) (ho:(o:Int)≤7000) :
    (decide ((l.drop o).head? = some 48∧((l.drop o).drop 1).head? = some 120)=false∧decide (hexN (l.drop o)≠0)=false) ∨
    (decide ((l.drop o).head? = some 48∧((l.drop o).drop 1).head? = some 120)=true ∧
      ((decide ((o:Int)+2<(l.length:Int))=false∧¬ o+2<l.length∧decide (hexN (l.drop o)≠0)=false) ∨
       (∃ (c:UInt8) (K:Nat) (hp:K<s.size),o+2=K∧decide ((o:Int)+2<(l.length:Int))=true∧o+2<l.length∧(o:Int)+2=(K:Int)∧(K:Int)<(s.size:Int)∧IntKind.i64.wrap (K:Int)=(K:Int)∧K<l.length∧s[K]'hp=c∧decide (hexN (l.drop o)≠0)=isHexS c))):=by
  have hx:=hex_starts (l.drop o)
  by_cases h:(l.drop o).head? = some 48∧((l.drop o).drop 1).head? = some 120
  · right
    refine ⟨decide_eq_true h,?_⟩
    by_cases h2:o+2<l.length
    · right
      have hd:=List.drop_eq_getElem_cons h2
      have hdd:(l.drop o).drop 2=l[o+2] :: l.drop (o+2+1):=by rw [List.drop_drop];exact hd
      obtain ⟨h1,hp,e⟩:=hl.byte (o+2) l[o+2] _ hd
      have hz:s.size=l.length:=hl.size
      refine ⟨l[o+2],o+2,hp,rfl,decide_eq_true (by omega),h2,by omega,by omega,?_,h2,e,?_⟩
      · rw [IntKind.wrap_i64];omega
      · rw [Bool.eq_iff_iff,decide_eq_true_iff,hx]
        constructor
        · rintro ⟨-,c,t,h3,h4⟩
          rw [hdd] at h3
          injection h3 with h3 _
          rw [h3];exact h4
        · intro h4
          exact ⟨h,_,_,hdd,h4⟩
    · left
      refine ⟨decide_eq_false (by omega),h2,?_⟩
      rw [decide_eq_false_iff_not,hx]
      rintro ⟨-,c,t,h3,-⟩
      rw [List.drop_drop,List.drop_eq_nil_iff.2 (by omega)] at h3
      cases h3
  · left
    refine ⟨decide_eq_false h,?_⟩
    rw [decide_eq_false_iff_not,hx]
    exact fun h'=>h h'.1
theorem frac_case (s:ByteArray) (l:List UInt8) (A:Nat) (hl:Tx s l) (hA:A≤l.length) :
  (decide ((A:Int)<(l.length:Int))=false∧¬ A<l.length∧fracN (l.drop A)=0) ∨
  (∃ (c:UInt8) (hp:A<s.size),decide ((A:Int)<(l.length:Int))=true∧A<l.length∧(A:Int)<(s.size:Int)∧s[A]'hp=c ∧
   ((((c.toNat:Int) == 46)=false∧fracN (l.drop A)=0)∨(((c.toNat:Int) == 46)=true∧((hasD (l.drop (A+1))=false∧fracN (l.drop A)=0)∨(hasD (l.drop (A+1))=true∧fracN (l.drop A)=1+digN (l.drop (A+1))))))):=by
 have hz:s.size=l.length:=hl.size
 by_cases h:A<l.length
 ·right
  have hd:=List.drop_eq_getElem_cons h
  obtain ⟨h1,hp,e⟩:=hl.byte A l[A] _ hd
  refine ⟨l[A],hp,decide_eq_true (by omega),h,by omega,e,?_⟩
  rw [hd,fracN_parts]
  by_cases h46:l[A].toNat=46
  ·right
   refine ⟨by rw [beq_iff_eq];omega,?_⟩
   cases hh:hasD (l.drop (A+1))
   ·exact .inl ⟨rfl,by rw [if_neg (by simp)]⟩
   ·exact .inr ⟨rfl,by rw [if_pos ⟨h46,rfl⟩]⟩
  ·left
   exact ⟨by rw [beq_eq_false_iff_ne];omega,by rw [if_neg (fun h=>h46 h.1)]⟩
 ·left
  refine ⟨decide_eq_false (by omega),h,?_⟩
  rw [List.drop_eq_nil_iff.2 (by omega)];rfl
def isE:List UInt8→Bool
 | []=>false
 | c :: _=>decide (c.toNat=101) || decide (c.toNat=69)
theorem expN_isE (l:List UInt8) (A:Nat):(isE (l.drop A)=false→expN (l.drop A)=0) ∧
  (isE (l.drop A)=true→A<l.length∧expN (l.drop A)=if hasD ((l.drop (A+1)).drop (sgnN (l.drop (A+1))))=true then 1+sgnN (l.drop (A+1))+digN ((l.drop (A+1)).drop (sgnN (l.drop (A+1)))) else 0):=by
 by_cases h:A<l.length
 ·rw [List.drop_eq_getElem_cons h,expN_parts]
  unfold isE
  dsimp only
  constructor
  ·intro h1
   rw [if_neg]
   simp at h1
   rintro ⟨h2 | h2,-⟩
   ·exact h1.1 h2
   ·exact h1.2 h2
  ·intro h1
   refine ⟨h,?_⟩
   simp at h1
   cases hasD ((l.drop (A+1)).drop (sgnN (l.drop (A+1)))) <;> simp [h1]
 ·rw [List.drop_eq_nil_iff.2 (by omega)]
  exact ⟨fun _=>rfl,fun h=>by cases h⟩
theorem exp_case (s:ByteArray) (l:List UInt8) (A:Nat) (hl:Tx s l) (hA:A≤l.length) :
  (decide ((A:Int)<(l.length:Int))=false∧¬ A<l.length∧isE (l.drop A)=false) ∨
  (∃ (c:UInt8) (hp:A<s.size),decide ((A:Int)<(l.length:Int))=true∧A<l.length∧(A:Int)<(s.size:Int)∧s[A]'hp=c ∧
   ((((c.toNat:Int) == 101)=false∧((c.toNat:Int) == 69)=false∧isE (l.drop A)=false)∨(((c.toNat:Int) == 101)=true∧isE (l.drop A)=true)∨(((c.toNat:Int) == 101)=false∧((c.toNat:Int) == 69)=true∧isE (l.drop A)=true))):=by
 have hz:s.size=l.length:=hl.size
 by_cases h:A<l.length
 ·right
  have hd:=List.drop_eq_getElem_cons h
  obtain ⟨h1,hp,e⟩:=hl.byte A l[A] _ hd
  refine ⟨l[A],hp,decide_eq_true (by omega),h,by omega,e,?_⟩
  rw [hd]
  unfold isE
  dsimp only
  by_cases h1:l[A].toNat=101
  ·right;left
   exact ⟨by rw [beq_iff_eq];omega,by simp [h1]⟩
  ·by_cases h2:l[A].toNat=69
   ·right;right
    exact ⟨by rw [beq_eq_false_iff_ne];omega,by rw [beq_iff_eq];omega,by simp [h2]⟩
   ·left
    exact ⟨by rw [beq_eq_false_iff_ne];omega,by rw [beq_eq_false_iff_ne];omega,by simp [h1,h2]⟩
 ·left
  refine ⟨decide_eq_false (by omega),h,?_⟩
  rw [List.drop_eq_nil_iff.2 (by omega)];rfl
theorem sgn_at (s:ByteArray) (l:List UInt8) (A:Nat) (hl:Tx s l) (hA:A<l.length) (h7:(A:Int)≤7000) :
  (decide ((A:Int)+1<(l.length:Int))=false∧¬ A+1<l.length∧decide (sgnN (l.drop (A+1))=1)=false) ∨
  (∃ (c:UInt8) (K:Nat) (hp:K<s.size),A+1=K∧decide ((A:Int)+1<(l.length:Int))=true∧A+1<l.length∧(A:Int)+1=(K:Int)∧(K:Int)<(s.size:Int)∧IntKind.i64.wrap (K:Int)=(K:Int)∧K<l.length∧s[K]'hp=c ∧
   ((((c.toNat:Int) == 43)=false∧((c.toNat:Int) == 45)=false∧decide (sgnN (l.drop (A+1))=1)=false)∨(((c.toNat:Int) == 43)=true∧decide (sgnN (l.drop (A+1))=1)=true)∨(((c.toNat:Int) == 43)=false∧((c.toNat:Int) == 45)=true∧decide (sgnN (l.drop (A+1))=1)=true))):=by
 have hz:s.size=l.length:=hl.size
 by_cases h:A+1<l.length
 ·right
  have hd:=List.drop_eq_getElem_cons h
  obtain ⟨h1,hp,e⟩:=hl.byte (A+1) l[A+1] _ hd
  refine ⟨l[A+1],A+1,hp,rfl,decide_eq_true (by omega),h,by omega,by omega,by rw [IntKind.wrap_i64];omega,h,e,?_⟩
  rw [hd]
  rcases sign_case l[A+1] (l.drop (A+1+1)) with ⟨h1,h2⟩ | ⟨h1,h2,h3⟩ | ⟨h1,h2,h3⟩
  ·right;left
   exact ⟨by rw [beq_iff_eq];omega,by rw [h2];rfl⟩
  ·right;right
   exact ⟨by rw [beq_eq_false_iff_ne];omega,by rw [beq_iff_eq];omega,by rw [h3];rfl⟩
  ·left
   exact ⟨by rw [beq_eq_false_iff_ne];omega,by rw [beq_eq_false_iff_ne];omega,by rw [h3];rfl⟩
 ·left
  refine ⟨decide_eq_false (by omega),h,?_⟩
  rw [List.drop_eq_nil_iff.2 (by omega)];rfl
theorem sgnN_or (r:List UInt8):sgnN r=0∨sgnN r=1:=by
 cases r with
 | nil=>exact .inl rfl
 | cons c t =>
   rcases sign_case c t with ⟨_,h⟩ | ⟨_,_,h⟩ | ⟨_,_,h⟩
   ·exact .inr h
   ·exact .inr h
   ·exact .inl h
theorem numW_fin {W:Nat×Nat×TokV×Nat} {E0 K A o:Nat} {V0:TokV} {G:Bool} (hW:W=if E0≠0 then (E0,0,tok0,0) else if G then (2,K,tok0,0) else (0,0,V0,K)) (hA:A=o+K) :
  (if E0≠0 then E0 else if G then 2 else 0)=W.1∧(if E0≠0 then o else if G then A else 0)=(if W.1=0 then 0 else o+W.2.1)∧(W.1=0→E0=0∧W.2.2.1=V0∧W.2.2.2=K):=by
 subst hW
 subst hA
 by_cases h:E0=0
 ·subst h
  cases G
  ·exact ⟨rfl,rfl,fun _=>⟨rfl,rfl,rfl⟩⟩
  ·exact ⟨rfl,rfl,fun h=>by cases h⟩
 ·rw [if_pos h,if_pos h,if_pos h]
  refine ⟨rfl,?_,fun h'=>absurd h' h⟩
  dsimp only
  rw [if_neg h,Nat.add_zero]
def decE (T:List UInt8):Nat:=if wholeB T then (wholeS T).2 else (parseS T).2
def decV (T:List UInt8):TokV:=if wholeB T then ⟨2,[],(wholeS T).1,0,0⟩ else ⟨3,[],0,(parseS T).1,0⟩
theorem numW_tens (l:List UInt8) (h:hexN l=0) (hd:decN l≠0) (K:Nat) (hK:decN l=K) (T:List UInt8) (hT:l.take K=T) :
  numW l=if decE T≠0 then (decE T,0,tok0,0) else if gosR (l.drop K) then (2,K,tok0,0) else (0,0,decV T,K):=by
 subst hK;subst hT
 exact numW_dec l h hd
theorem tokC_dec (T:List UInt8) (o:Nat) (k n:Int) (d:Nat) (h:k=((decV T).k:Nat)∧n=(decV T).n∧d=(decV T).d) :
  #[.int .i64 k,.string ⟨#[]⟩,.int .i64 n,.int .u64 ((d:Nat):Int),.int .i64 (o:Int)]=tokC { decV T with p:=o }:=by
 obtain ⟨rfl,rfl,rfl⟩:=h
 unfold tokC decV
 cases wholeB T <;> rfl
theorem whole_digits (l:List UInt8) (h:wholeB l=true):∀ c ∈ l.drop (sgnN l),isDig c=true:=by
 unfold wholeB at h
 have h:=of_decide_eq_true h
 have:=spanN_take isDig (l.drop (sgnN l))
 rw [List.take_of_length_le] at this
 ·exact this
 ·rw [List.length_drop]
  unfold digN at h
  omega
end Go.Proofs.YtjggghfekakogaaGreat
namespace Go.Proofs.YtjggghfekakogaaGreat
open Go.RowKit
theorem YG.any {P:Program} {ops:Array Oper} {w w':World} {o:Oper} {v:Value} {a:Act} {x:Operand} {n:Nat} (ho:o.op = .extract x n) (h:YG P ops w o v a):YG P ops w' o v a:=by
 rcases h with ⟨h1,h2⟩ | h
 ·refine .inl ⟨h1,fun y=>?_⟩
  have h:=h2 ⟨w,Nx.refl w⟩
  unfold Oper.quietAt at *
  have e:execOp a.eval o=(do pure (.value (← Instr.extract (a.eval x) n))):=by
   unfold execOp;rw [ho]
  rw [e] at h ⊢
  cases hv:a.eval x with
  | tuple vs =>
   rw [hv] at h
   simp only [Instr.extract] at h ⊢
   cases hn:vs[n]? with
   | none=>rw [hn] at h;exact h.elim
   | some u=>rw [hn] at h;exact ⟨rfl,h.2⟩
  | _=>rw [hv] at h;exact h.elim
 ·exact .inr h
namespace E
namespace X
section
variable {st:Nat} {P:Program} {ops:Array Oper} {md:Region.Mode}
theorem GA_first {Q:Act→World→Prop} {i:Nat} {oi:Oper} {v:Value} (hi:ops[i]? = some oi) (hsel:∀ (j:Nat) (o:Oper) cs b,ops[j]? = some o→o.op≠.select cs b)
  (hst:(∀ o,ops[st]? = some o→∃ e ∈ o.after,Region.binds md e=true∧e.on=i)∨∃ x n,oi.op = .extract x n) :
  ∀ (f:Nat) (listed:Array Bool) (a:Act) (w:World),
   (∀ j oj,ops[j]? = some oj→j≠i→listed.getD j true=false→(∀ e ∈ oj.after,Region.binds md e=true→e.on≠i)→oi.apart ops oj=true) →
   i ∈ Region.ready md ops listed→YG P ops w oi v a →
   GA st P md ops Q f (listed.setIfInBounds i true) (a.put oi.dst v) w→GA st P md ops Q (f+1) listed a w:=by
 intro f
 induction f with
 | zero =>
  intro listed a w _ hr hy H w1 hn
  refine ⟨fun h=>(by rw [h] at hr;cases hr),fun j hj=>?_⟩
  by_cases hji:j=i
  ·subst hji;exact (hy.grow hn).gOp hi ⟨.inr (Nx.refl _),H.grow hn⟩
  ·have:=ready_mono hj hji
   rw [H.1] at this
   cases this
 | succ f ih =>
  intro listed a w hfree hr hy H w1 hn
  refine ⟨fun h=>(by rw [h] at hr;cases hr),fun j hj=>?_⟩
  by_cases hji:j=i
  ·subst hji;exact (hy.grow hn).gOp hi ⟨.inr (Nx.refl _),H.grow hn⟩
  ·have h1:=(H w1 hn).2 j (ready_mono hj hji)
   obtain ⟨hjun,oj,hoj,hall⟩:=mem_ready.1 hj
   have hnot:∀ e ∈ oj.after,Region.binds md e=true→e.on≠i:=fun e he hb heq=>by
    have h1:=hall e he hb
    have h0:=(mem_ready.1 hr).1
    rw [heq] at h1
    rcases Nat.lt_or_ge i listed.size with h' | h'
    ·simp [h'] at h0 h1;rw [h0] at h1;cases h1
    ·simp [Array.getElem?_eq_none h'] at h1
   have h2:=gOp_put hoj (hfree j oj hoj hji hjun hnot) (fun cs b=>hsel i oi cs b hi) (fun cs b=>hsel j oj cs b hoj) (hy.grow hn) h1
   have hfree':∀ k ok,ops[k]? = some ok→k≠i→(listed.setIfInBounds j true).getD k true=false →
     (∀ e ∈ ok.after,Region.binds md e=true→e.on≠i)→oi.apart ops ok=true:=fun k ok hk hki hun hno=>by
    refine hfree k ok hk hki ?_ hno
    by_cases hjk:j=k
    ·subst hjk;exact hjun
    ·rw [getD_set_ne true hjk] at hun;exact hun
   refine gOp_mono (fun a' w' h3=>?_) h2
   rcases hst with hst | ⟨x,n,hx⟩
   ·have hjst:j≠st:=by
     rintro rfl
     obtain ⟨e,he,hb,heq⟩:=hst oj hoj
     exact hnot e he hb heq
    have hN:=h3.2.1.resolve_left hjst
    refine ⟨.inr hN,ih (listed.setIfInBounds j true) a' w' hfree' (ready_mono hr (Ne.symm hji)) (h3.1.grow hN) ?_⟩
    rw [Array.setIfInBounds_comm _ _ hji]
    exact h3.2.2
   ·refine ⟨h3.2.1,ih (listed.setIfInBounds j true) a' w' hfree' (ready_mono hr (Ne.symm hji)) (h3.1.any hx) ?_⟩
    rw [Array.setIfInBounds_comm _ _ hji]
    exact h3.2.2
def exB (ops:Array Oper) (k:Nat):Bool:=match ops[k]? with
 | some o=>match o.op with
  | .extract _ _=>true
  | _=>false
 | none=>false
theorem exB_spec {k:Nat} {o:Oper} (h:exB ops k=true) (ho:ops[k]? = some o):∃ x n,o.op = .extract x n:=by
 unfold exB at h
 simp only [ho] at h
 split at h
 ·exact ⟨_,_,by assumption⟩
 ·cases h
def hybFrom (st:Nat) (md:Region.Mode) (ops:Array Oper):List (Nat×Bool)→Array Bool→Bool
 | [],listed=>(Region.ready md ops listed).isEmpty
 | (k,true) :: rest,listed=>(Region.ready md ops listed).contains k && Region.free md ops listed k && (edge st md ops k || exB ops k) && hybFrom st md ops rest (listed.setIfInBounds k true)
 | (k,false) :: rest,listed=>Region.ready md ops listed == [k] && hybFrom st md ops rest (listed.setIfInBounds k true)
def hybB (st:Nat) (md:Region.Mode) (ops:Array Oper) (s:List (Nat×Bool)):Bool:=Region.noSelect ops && s.length == ops.size && hybFrom st md ops s (Array.replicate ops.size false)
theorem GA_hyb {Q:Act→World→Prop} (hs:Region.noSelect ops=true):∀ (s:List (Nat×Bool)) (listed:Array Bool) (a:Act) (w:World),
  hybFrom st md ops s listed=true→wpHyb st P ops Q s a w→GA st P md ops Q s.length listed a w
 | [],listed,a,w,hB,h=>⟨by simpa [hybFrom] using hB,h⟩
 | (k,true) :: rest,listed,a,w,hB,h=>by
  simp only [hybFrom,Bool.and_eq_true,Bool.or_eq_true] at hB
  obtain ⟨⟨⟨hr,hf⟩,hed⟩,hB'⟩:=hB
  have hr':k ∈ Region.ready md ops listed:=by simpa using hr
  obtain ⟨_,o,ho,_⟩:=mem_ready.1 hr'
  simp only [wpHyb,ho] at h
  by_cases hw:Region.wanted o (yielded ops a.tmps)=true
  ·simp only [hw,if_true] at h
   obtain ⟨v,h1,h2⟩:=h
   exact GA_first ho (Region.noSelect_spec hs) (hed.elim (fun h=>.inl (edge_spec h)) (fun h=>.inr (exB_spec h ho))) rest.length listed a w (Region.free_spec ho hf) hr' (.inl ⟨hw,h1⟩) (GA_hyb hs rest _ _ _ hB' h2)
  ·simp only [hw] at h
   exact GA_first ho (Region.noSelect_spec hs) (hed.elim (fun h=>.inl (edge_spec h)) (fun h=>.inr (exB_spec h ho))) rest.length listed a w (Region.free_spec ho hf) hr' (.inr ⟨by simpa using hw,rfl⟩) (GA_hyb hs rest _ _ _ hB' h)
 | (k,false) :: rest,listed,a,w,hB,h=>by
  simp only [hybFrom,Bool.and_eq_true,beq_iff_eq] at hB
  obtain ⟨hr,hB'⟩:=hB
  intro w1 hn
  refine ⟨fun h0=>(by rw [hr] at h0;cases h0),fun i hi=>?_⟩
  rw [hr] at hi
  obtain rfl:i=k:=by simpa using hi
  have h:=h w1 hn
  unfold gOp
  cases ho:ops[i]? with
  | none=>rw [ho] at h;exact h.elim
  | some o =>
   rw [ho] at h
   simp only at h ⊢
   by_cases hw:Region.wanted o (yielded ops a.tmps)=true
   ·simp only [hw,if_true] at h ⊢
    exact wp_mono_both (fun a' w' h'=>⟨h'.1,GA_hyb hs rest _ _ _ hB' h'.2⟩) h trivial
   ·simp only [hw] at h ⊢
    exact ⟨.inr (Nx.refl _),GA_hyb hs rest _ _ _ hB' h⟩
theorem wp_region_hyb {id:Nat} {Q:Exit→Act→World→Prop} {a:Act} {w:World} {l:List Oper} (s:List (Nat×Bool)) (hm:P.follows .mixedOrders=true) (hB:hybB st .any l.toArray s=true)
  (h:Hyb st P l.toArray (fun a w=>Q .normal a w) s a w):(Code.region id l.toArray true).wp P Q a w:=by
 simp only [hybB,Bool.and_eq_true,beq_iff_eq] at hB
 obtain ⟨⟨h1,h2⟩,h3⟩:=hB
 refine wp_region_any hm (wpAny_of_GA (st:=st) (Q:=fun a w=>Q .normal a w) (fun _ _ h=>h) _ _ _ _ ?_)
 have:=GA_hyb (st:=st) (md:=.any) h1 s _ _ _ h3 h.out
 rw [h2] at this
 exact this.grow (Nx.drawn w)
end
end X
end E
end Go.Proofs.YtjggghfekakogaaGreat
namespace Go.Proofs.YtjggghfekakogaaGreat
open Go.RowKit
set_option maxRecDepth 100000 in
set_option maxHeartbeats 25600000 in
theorem refNumber_hex (b:Nat) (s:ByteArray) (l:List UInt8) (o:Nat) (w:World) (hB:Lxb w b s o 0 0) (hl:Tx s l) (ho:o<l.length) (hs:(l.length:Int)≤7000) (hd:decN (l.drop o)≠0) (hx:hexN (l.drop o)≠0) :
  Calls Tryz.prog 37 #[.pointer (some ⟨b,0,none⟩)] w fun e' w'=>WordR e' b s o (numW (l.drop o)) w w':=by
 have hz:(s.size:Int)=(l.length:Int):=by rw [hl.size]
 have HL:=Lib.hid hl
 have HXH:=Lib.hid hx
 clear hx
 obtain ⟨g,hg⟩:∃ g,w.heap.size=g:=⟨_,rfl⟩
 have hbg:b<g:=by rw [← hg];exact hB.lt
 have hT0:=Blk.new w #[.int .i64 0,.string ⟨#[]⟩,.int .i64 0,.int .u64 0,.int .i64 0] 43
 rw [hg] at hT0
 have hN0:Nx w (w.alloc (Obj.cells #[.int .i64 0,.string ⟨#[]⟩,.int .i64 0,.int .u64 0,.int .i64 0] 43)):=nx0 _ _
 have HB0:Hid (Lxb (w.alloc (Obj.cells #[.int .i64 0,.string ⟨#[]⟩,.int .i64 0,.int .u64 0,.int .i64 0] 43)) b s o 0 0):=hB.below hN0
 obtain ⟨S,D,F,X,hP⟩:=parts_of _ hd
 have HP:=Lib.hid hP
 have hPl:=hP.len.2
 rw [List.length_drop] at hPl
 have hgw:w.heap.size≤g:=by omega
 have ho7:(o:Int)≤7000:=by omega
 have hoI:(o:Int)<(s.size:Int):=by omega
 obtain ⟨W,hW0⟩:∃ W,Hid (numW (l.drop o)=W):=⟨_,rfl⟩
 rw [hW0.out]
 obtain ⟨c,r,hcr⟩:∃ c r,Hid (l.drop o=c :: r):=⟨l[o],_,List.drop_eq_getElem_cons ho⟩
 obtain ⟨-,hos,hoc⟩:=HL.out.byte o c r hcr.out
 have HD:=Lib.hid hd
 have hDG:digN (l.drop (o+S))=D:=by have:=hP.d;rw [List.drop_drop] at this;exact this
 have hFR:fracN (l.drop (o+S+D))=F:=by have:=hP.f;rw [List.drop_drop,← Nat.add_assoc] at this;exact this
 have hEX:expN (l.drop (o+S+D+F))=X:=by have:=hP.x;rw [List.drop_drop,← Nat.add_assoc,← Nat.add_assoc] at this;exact this
 have HDG:=Lib.hid hDG
 have HFR:=Lib.hid hFR
 have HEX:=Lib.hid hEX
 clear hl hB hP hd hDG hFR hEX
 go_enter Tryz.func37,Tryz.ntmps37
 obtain ⟨c0,c1,c2,c3,f0,f1,f2,f3⟩:=Lxb.cells HB0.out
 go_upto_region 2 with fail
 generalize hW1:World.alloc _ _=w1 at *
 have HT1:=Lib.hid hT0
 clear hW1 hT0
 obtain ⟨HB,hHB⟩:∃ HB:Bool,Hid (decide (hexN (l.drop o)≠0)=HB):=⟨_,rfl⟩
 go_cut [38] (fun v wx=>v = .bool HB∧w1=wx)
 case first=>as_aux_lemma =>
  rename_i J K2 h1 h2;revert h1 h2;go_light;intro h1 h2
  have hcase:=hex_case s l o HL.out (by omega)
  rw [hHB.out] at hcase
  obtain ⟨ST,hST⟩:∃ ST:Bool,Hid (decide ((l.drop o).head? = some 48∧((l.drop o).drop 1).head? = some 120)=ST):=⟨_,rfl⟩
  have hsta:=fun w=>starts_any s l o 48 120 w HL.out (by omega) (by omega)
  rw [hST.out] at hcase hsta
  rcases hcase with ⟨rfl,rfl⟩ | ⟨rfl,⟨q1,q2,rfl⟩ | ⟨c,K,hp,-,q1,q2,q3,q4,q5,q6,q7,rfl⟩⟩
  ·go_wp2_with fail
   refine (hsta _).mono ?_;rintro e w' ⟨rfl,rfl⟩
   go_wp2_with fail
   go_meet
   exact ⟨rfl,rfl⟩
  ·go_wp2_with fail
   refine (hsta _).mono ?_;rintro e w' ⟨rfl,rfl⟩
   go_wp2_with fail
   go_meet
   exact ⟨rfl,rfl⟩
  ·obtain ⟨hx1,hx2⟩:=hexI_of c
   have hhx:=fun w=>refHex_any c w
   cases hH:isHexS c
   ·rw [hx2 hH] at hhx
    go_wp2_with fail
    refine (hsta _).mono ?_;rintro e w' ⟨rfl,rfl⟩
    go_wp2_with fail
    refine (hhx _).mono ?_;rintro e w' ⟨rfl,rfl⟩
    go_wp2_with fail
    go_meet
    exact ⟨congrArg _ hH.symm,rfl⟩
   ·obtain ⟨hx3,hx4⟩:=hx1 hH
    rw [hx3] at hhx
    go_wp2_with fail
    refine (hsta _).mono ?_;rintro e w' ⟨rfl,rfl⟩
    go_wp2_with fail
    refine (hhx _).mono ?_;rintro e w' ⟨rfl,rfl⟩
    go_wp2_with fail
    go_meet
    exact ⟨congrArg _ hH.symm,rfl⟩
 case rest=>as_aux_lemma =>
  obtain ⟨rfl,rfl⟩:=hcut
  cases HB
  ·exact absurd (show hexN (l.drop o)=0 by
    have:=hHB.out
    rw [decide_eq_false_iff_not] at this
    omega) HXH.out
  ·have hx1:hexN (l.drop o)≠0:=by
    have:=hHB.out
    rw [decide_eq_true_iff] at this
    exact this
   have hW6:=numW_hex _ hx1
   rw [hW0.out,List.drop_drop,List.drop_drop,← Nat.add_assoc] at hW6
   have ho2:o+2≤l.length:=by
    have:=(hexN_le (l.drop o)).1
    have:=hexN_two (l.drop o) hx1
    rw [List.length_drop] at *
    omega
   have HW6:=Lib.hid hW6
   clear hx1 hW6
   go_wp2_with fail
   refine (sixteen_any b s l o w1 HB0.out HL.out ho2 (by omega)).mono ?_;rintro e w2 HR
   rw [← HW6.out] at HR
   obtain ⟨k,t,v,d,p,rfl,i',hC,hif,hO⟩:=HR
   have hT2:=hO.blk HT1.out (by omega)
   have HC:=Lib.hid hC
   have HO:=Lib.hid ((Oth.nx hN0).trans hO)
   have HIF:=Lib.hid hif
   obtain ⟨t0,t1,t2,t3,t4,z0,z1,z2,z3,z4⟩:=cells5 hT2
   clear c0 c1 c2 c3 f0 f1 f2 f3 hC hif hO
   go_wp2_with fail
   refine bodyPost_ret (results_cell_row rfl _ _ g _ _ _ _ rfl hT2.put5.2 Tryz.underlying43 rfl (by kernel_rfl)) rfl ?_
   exact ⟨_,_,_,_,_,rfl,i',Blk.oth5 HC.out (by omega),HIF.out,HO.out.put5 hgw⟩
end Go.Proofs.YtjggghfekakogaaGreat
