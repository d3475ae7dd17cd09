/- The text of types: as a tree, and as a function of its bytes. Plain lemmas. Names as parts between full stops. Plain lemmas. Rows of structs that the call owns, of any type: what the call reads and appends. The contracts of kind's small functions. -/
import Derived.Test.YtpbjkgpdkopgmaaGreatDoorG00
import Derived.Lib.IndexMore
import Derived.Test.YtpbjkgpdkopgmaaGreatDoorG01
import Derived.Test.YtpbjkgpdkopgmaaGreatDoorProg
import Derived.Test.YtpbjkgpdkopgmaaGreatDoorShelf
import Derived.Lib.SmallJoins
import Derived.Laws.Rows
import Derived.Laws.ResultCell
import Derived.IntWalk
set_option linter.unusedVariables false
set_option linter.unusedSimpArgs false
set_option linter.unnecessarySimpa false
namespace Go.Proofs.YtpbjkgpdkopgmaaGreatDoor
def wordK (k:Nat):List UInt8 :=
 if k=2 then [98,111,111,108] else if k=3 then [105,56] else if k=4 then [100,111,117,98,108,101]
 else if k=6 then [105,49,54] else if k=8 then [105,51,50] else if k=10 then [105,54,52]
 else if k=11 then [115,116,114,105,110,103] else if k=13 then [109,97,112] else if k=14 then [115,101,116]
 else if k=15 then [108,105,115,116] else if k=16 then [98,105,110,97,114,121] else []
def kindW (l:List UInt8):Nat :=
 if l=[98,111,111,108] then 2 else if l=[105,56] then 3 else if l=[100,111,117,98,108,101] then 4
 else if l=[105,49,54] then 6 else if l=[105,51,50] then 8 else if l=[105,54,52] then 10
 else if l=[115,116,114,105,110,103] then 11 else if l=[109,97,112] then 13 else if l=[115,101,116] then 14
 else if l=[108,105,115,116] then 15 else if l=[98,105,110,97,114,121] then 16 else 0
def isKw (k:Nat):Prop:=k=2∨k=3∨k=4∨k=6∨k=8∨k=10∨k=11∨k=13∨k=14∨k=15∨k=16
def isBs (k:Nat):Prop:=k=2∨k=3∨k=4∨k=6∨k=8∨k=10∨k=11∨k=16
theorem kindW_is (l:List UInt8):kindW l=0∨(isKw (kindW l)∧l=wordK (kindW l)):=by
 unfold kindW
 repeat' split
 all_goals (first | exact .inl rfl | (subst l;exact .inr ⟨by simp [isKw],by simp [wordK]⟩))
theorem kindW_word (k:Nat) (h:isKw k):kindW (wordK k)=k:=by
 rcases h with rfl | rfl | rfl | rfl | rfl | rfl | rfl | rfl | rfl | rfl | rfl <;> decide
theorem wordK_nm (k:Nat) (h:isKw k):∀ c ∈ wordK k,isNmS c=true:=by
 rcases h with rfl | rfl | rfl | rfl | rfl | rfl | rfl | rfl | rfl | rfl | rfl <;> decide
def farF:Bool→List UInt8→Bool
 | b,[]=>!b
 | true,c :: r=>(!isDig c && decide (c≠46)) && farF false r
 | false,c :: r=>farF (decide (c=46)) r
def partN (l:List UInt8):Nat:=spanN (fun c=>decide (c≠46)) l
def nameOk (l:List UInt8):Bool:=farF true l && decide (kindW (l.take (partN l))=0)
inductive Ty where
 | nm (s:List UInt8)
 | bs (k:Nat)
 | l1 (k:Nat) (a:Ty)
 | mp (a b:Ty)
def showT:Ty→List UInt8
 | .nm s=>s
 | .bs k=>wordK k
 | .l1 k a=>wordK k++60 :: (showT a++[62])
 | .mp a b=>wordK 13++60 :: (showT a++44 :: (showT b++[62]))
def depthT:Ty→Nat
 | .nm _=>0
 | .bs _=>0
 | .l1 _ a=>depthT a+1
 | .mp a b=>max (depthT a) (depthT b)+1
def namesT:Ty→List (List UInt8)
 | .nm s=>[s]
 | .bs _=>[]
 | .l1 _ a=>namesT a
 | .mp a b=>namesT a++namesT b
def wfT:Ty→Prop
 | .nm s=>nameOk s=true∧∀ c ∈ s,isNmS c=true
 | .bs k=>isBs k
 | .l1 k a=>(k=14∨k=15)∧wfT a
 | .mp a b=>wfT a∧wfT b
def headT:Ty→Nat×List UInt8×List UInt8×List UInt8
 | .nm s=>(0,s,[],[])
 | .bs k=>(k,[],[],[])
 | .l1 k a=>(k,[],showT a,[])
 | .mp a b=>(13,[],showT a,showT b)
def noTy (e:Nat):Nat×Ty×Nat:=(e,.bs 0,0)
def parT:Nat→List UInt8→Nat×Ty×Nat
 | 0,l =>
  if kindW (l.take (spanN isNmS l))=0 then (if nameOk (l.take (spanN isNmS l)) then (0,.nm (l.take (spanN isNmS l)),spanN isNmS l) else noTy 2)
  else if kindW (l.take (spanN isNmS l))≠13∧kindW (l.take (spanN isNmS l))≠14∧kindW (l.take (spanN isNmS l))≠15 then (0,.bs (kindW (l.take (spanN isNmS l))),spanN isNmS l)
  else noTy 6
 | r+1,l =>
  if kindW (l.take (spanN isNmS l))=0 then (if nameOk (l.take (spanN isNmS l)) then (0,.nm (l.take (spanN isNmS l)),spanN isNmS l) else noTy 2)
  else if kindW (l.take (spanN isNmS l))≠13∧kindW (l.take (spanN isNmS l))≠14∧kindW (l.take (spanN isNmS l))≠15 then (0,.bs (kindW (l.take (spanN isNmS l))),spanN isNmS l)
  else if (l.drop (spanN isNmS l)).head?≠some 60 then noTy 2
  else
   let p:=parT r (l.drop (spanN isNmS l+1))
   if p.1≠0 then noTy p.1
   else if kindW (l.take (spanN isNmS l))=13 then
    if (l.drop (spanN isNmS l+1+p.2.2)).head?≠some 44 then noTy 2
    else
     let q:=parT r (l.drop (spanN isNmS l+1+p.2.2+1))
     if q.1≠0 then noTy q.1
     else if (l.drop (spanN isNmS l+1+p.2.2+1+q.2.2)).head?≠some 62 then noTy 2
     else (0,.mp p.2.1 q.2.1,spanN isNmS l+1+p.2.2+1+q.2.2+1)
   else if (l.drop (spanN isNmS l+1+p.2.2)).head?≠some 62 then noTy 2
   else (0,.l1 (kindW (l.take (spanN isNmS l))) p.2.1,spanN isNmS l+1+p.2.2+1)
theorem dropA (w X:List UInt8) (n:Nat):(w++X).drop (w.length+n)=X.drop n:=by
 induction w with
 | nil=>simp
 | cons c w ih=>simpa [Nat.add_right_comm] using ih
theorem span_app (w rest:List UInt8) (h1:∀ c ∈ w,isNmS c=true) (h2:rest=[]∨∃ c t,rest=c :: t∧isNmS c=false):spanN isNmS (w++rest)=w.length :=
 spanN_is _ _ _ (by simp) (by simpa using h1) (by simpa using h2)
theorem kind_name (s:List UInt8) (h:nameOk s=true):kindW s=0:=by
 rcases kindW_is s with h0 | ⟨h1,h2⟩
 ·exact h0
 ·exfalso
  unfold nameOk at h
  rw [h2] at h
  rcases h1 with h1 | h1 | h1 | h1 | h1 | h1 | h1 | h1 | h1 | h1 | h1 <;> rw [h1] at h <;> revert h <;> decide
theorem bs_kw {k:Nat} (h:isBs k):isKw k:=by unfold isBs at h;unfold isKw;omega
theorem bs_ne {k:Nat} (h:isBs k):k≠0∧k≠13∧k≠14∧k≠15:=by unfold isBs at h;omega
theorem parT_full:∀ (t:Ty) (r:Nat) (rest:List UInt8),wfT t→depthT t≤r→(rest=[]∨∃ c x,rest=c :: x∧isNmS c=false)→parT r (showT t++rest)=(0,t,(showT t).length):=by
 intro t
 induction t with
 | nm s =>
  intro r rest hw hd hr
  have h1:=span_app s rest hw.2 hr
  have h2:(s++rest).take s.length=s:=List.take_left
  have h3:=kind_name s hw.1
  have e:showT (.nm s)++rest=s++rest:=rfl
  rw [e]
  cases r <;> (unfold parT;rw [h1,h2,if_pos h3,if_pos hw.1];rfl)
 | bs k =>
  intro r rest hw hd hr
  have hk:=bs_kw hw
  have h1:=span_app (wordK k) rest (wordK_nm k hk) hr
  have h2:(wordK k++rest).take (wordK k).length=wordK k:=List.take_left
  have h3:=kindW_word k hk
  have h4:=bs_ne hw
  have e:showT (.bs k)++rest=wordK k++rest:=rfl
  rw [e]
  cases r <;> (unfold parT;rw [h1,h2,h3,if_neg h4.1,if_pos h4.2];rfl)
 | l1 k a ih =>
  intro r rest hw hd hr
  have hk:isKw k:=by rcases hw.1 with rfl | rfl <;> simp [isKw]
  cases r with
  | zero=>simp [depthT] at hd
  | succ r =>
   have e:showT (.l1 k a)++rest=wordK k++60 :: (showT a++62 :: rest):=by simp [showT]
   have h1:=span_app (wordK k) (60 :: (showT a++62 :: rest)) (wordK_nm k hk) (.inr ⟨60,_,rfl,by decide⟩)
   have h2:(wordK k++60 :: (showT a++62 :: rest)).take (wordK k).length=wordK k:=List.take_left
   have h3:=kindW_word k hk
   have hd0:(wordK k++60 :: (showT a++62 :: rest)).drop (wordK k).length=60 :: (showT a++62 :: rest):=by simpa using dropA (wordK k) (60 :: (showT a++62 :: rest)) 0
   have hd1:(wordK k++60 :: (showT a++62 :: rest)).drop ((wordK k).length+1)=showT a++62 :: rest:=by simpa using dropA (wordK k) (60 :: (showT a++62 :: rest)) 1
   have hd2:(wordK k++60 :: (showT a++62 :: rest)).drop ((wordK k).length+1+(showT a).length)=62 :: rest:=by
    rw [Nat.add_assoc,dropA,Nat.add_comm 1,List.drop_succ_cons]
    simpa using dropA (showT a) (62 :: rest) 0
   have hi:=ih r (62 :: rest) hw.2 (by simp [depthT] at hd;omega) (.inr ⟨62,_,rfl,by decide⟩)
   rw [e]
   unfold parT
   rw [h1,h2,h3,if_neg (by rcases hw.1 with rfl | rfl <;> simp),if_neg (by rcases hw.1 with rfl | rfl <;> simp),hd0,if_neg (by simp),hd1,hi]
   dsimp only
   rw [if_neg (by simp),if_neg (by rcases hw.1 with rfl | rfl <;> simp),hd2,if_neg (by simp)]
   simp [showT]
   omega
 | mp a b iha ihb =>
  intro r rest hw hd hr
  have hk:isKw 13:=by simp [isKw]
  cases r with
  | zero=>simp [depthT] at hd
  | succ r =>
   have e:showT (.mp a b)++rest=wordK 13++60 :: (showT a++44 :: (showT b++62 :: rest)):=by simp [showT]
   have h1:=span_app (wordK 13) (60 :: (showT a++44 :: (showT b++62 :: rest))) (wordK_nm 13 hk) (.inr ⟨60,_,rfl,by decide⟩)
   have h2:(wordK 13++60 :: (showT a++44 :: (showT b++62 :: rest))).take (wordK 13).length=wordK 13:=List.take_left
   have h3:=kindW_word 13 hk
   have hd0:(wordK 13++60 :: (showT a++44 :: (showT b++62 :: rest))).drop (wordK 13).length=60 :: (showT a++44 :: (showT b++62 :: rest)):=by simpa using dropA (wordK 13) (60 :: (showT a++44 :: (showT b++62 :: rest))) 0
   have hd1:(wordK 13++60 :: (showT a++44 :: (showT b++62 :: rest))).drop ((wordK 13).length+1)=showT a++44 :: (showT b++62 :: rest):=by simpa using dropA (wordK 13) (60 :: (showT a++44 :: (showT b++62 :: rest))) 1
   have hd2:(wordK 13++60 :: (showT a++44 :: (showT b++62 :: rest))).drop ((wordK 13).length+1+(showT a).length)=44 :: (showT b++62 :: rest):=by
    rw [Nat.add_assoc,dropA,Nat.add_comm 1,List.drop_succ_cons]
    simpa using dropA (showT a) (44 :: (showT b++62 :: rest)) 0
   have hd3:(wordK 13++60 :: (showT a++44 :: (showT b++62 :: rest))).drop ((wordK 13).length+1+(showT a).length+1)=showT b++62 :: rest:=by
    rw [← List.drop_drop,hd2];simp
   have hd4:(wordK 13++60 :: (showT a++44 :: (showT b++62 :: rest))).drop ((wordK 13).length+1+(showT a).length+1+(showT b).length)=62 :: rest:=by
    rw [← List.drop_drop,hd3]
    simpa using dropA (showT b) (62 :: rest) 0
   have hia:=iha r (44 :: (showT b++62 :: rest)) hw.1 (by simp [depthT] at hd;omega) (.inr ⟨44,_,rfl,by decide⟩)
   have hib:=ihb r (62 :: rest) hw.2 (by simp [depthT] at hd;omega) (.inr ⟨62,_,rfl,by decide⟩)
   rw [e]
   unfold parT
   rw [h1,h2,h3,if_neg (by simp),if_neg (by simp),hd0,if_neg (by simp),hd1,hia]
   dsimp only
   rw [if_neg (by simp),if_pos (rfl:(13:Nat)=13),hd2,if_neg (by simp),hd3,hib]
   dsimp only
   rw [if_neg (by simp),hd4,if_neg (by simp)]
   simp [showT]
   omega
theorem head_take (l:List UInt8) (c:UInt8) (n:Nat) (h:(l.drop n).head? = some c):l.take (n+1)=l.take n++[c]∧n+1≤l.length:=by
 rcases Nat.lt_or_ge n l.length with hn | hn
 ·rw [List.take_succ_eq_append_getElem hn]
  rw [List.head?_drop,List.getElem?_eq_getElem hn] at h
  cases h
  exact ⟨rfl,by omega⟩
 ·rw [List.drop_eq_nil_of_le hn] at h;cases h
theorem take_seg (l:List UInt8) (n m:Nat):l.take (n+m)=l.take n++(l.drop n).take m:=List.take_add
theorem parT_sound:∀ (r:Nat) (l:List UInt8),(parT r l).1=0→wfT (parT r l).2.1∧depthT (parT r l).2.1≤r∧(parT r l).2.2≤l.length∧l.take (parT r l).2.2=showT (parT r l).2.1:=by
 intro r
 induction r with
 | zero =>
  intro l h
  have hsp:=spanN_le isNmS l
  have htk:=spanN_take isNmS l
  unfold parT at h ⊢
  generalize spanN isNmS l=N at *
  rcases kindW_is (l.take N) with h0 | ⟨h1,h2⟩
  ·rw [if_pos h0] at h ⊢
   split at h
   ·rename_i hn
    rw [if_pos hn]
    exact ⟨⟨hn,htk⟩,Nat.le_refl _,hsp,rfl⟩
   ·cases h
  ·have h0:kindW (l.take N)≠0:=by intro e;rw [e] at h1;simp [isKw] at h1
   rw [if_neg h0] at h ⊢
   split at h
   ·rename_i hn
    rw [if_pos hn]
    refine ⟨?_,Nat.le_refl _,hsp,h2⟩
    show isBs _
    unfold isBs;unfold isKw at h1;omega
   ·cases h
 | succ r ih =>
  intro l h
  have hsp:=spanN_le isNmS l
  have htk:=spanN_take isNmS l
  unfold parT at h ⊢
  generalize spanN isNmS l=N at *
  rcases kindW_is (l.take N) with h0 | ⟨h1,h2⟩
  ·rw [if_pos h0] at h ⊢
   split at h
   ·rename_i hn
    rw [if_pos hn]
    exact ⟨⟨hn,htk⟩,Nat.zero_le _,hsp,rfl⟩
   ·cases h
  ·have h0:kindW (l.take N)≠0:=by intro e;rw [e] at h1;simp [isKw] at h1
   rw [if_neg h0] at h ⊢
   split at h
   ·rename_i hn
    rw [if_pos hn]
    refine ⟨?_,Nat.zero_le _,hsp,h2⟩
    show isBs _
    unfold isBs;unfold isKw at h1;omega
   ·rename_i hn
    rw [if_neg hn]
    split at h
    ·cases h
    ·rename_i h60
     rw [if_neg h60]
     have e60:=head_take l 60 N (by simpa using h60)
     have hA:=ih (l.drop (N+1))
     dsimp only at h ⊢
     generalize parT r (l.drop (N+1))=p at *
     obtain ⟨pe,pt,pn⟩:=p
     dsimp only at h hA ⊢
     by_cases hpe:pe≠0
     ·rw [if_pos hpe] at h;exact absurd h hpe
     ·rw [if_neg hpe] at h ⊢
      have hA':=hA (by simpa using hpe)
      have hlen:pn≤l.length - (N+1):=by simpa using hA'.2.2.1
      have tk1:l.take (N+1+pn)=l.take N++60 :: showT pt:=by rw [take_seg,hA'.2.2.2,e60.1];simp
      by_cases h13:kindW (l.take N)=13
      ·rw [if_pos h13] at h ⊢
       split at h
       ·cases h
       ·rename_i h44
        rw [if_neg h44]
        have e44:=head_take l 44 (N+1+pn) (by simpa using h44)
        have hB:=ih (l.drop (N+1+pn+1))
        generalize parT r (l.drop (N+1+pn+1))=q at *
        obtain ⟨qe,qt,qn⟩:=q
        dsimp only at h hB ⊢
        by_cases hqe:qe≠0
        ·rw [if_pos hqe] at h;exact absurd h hqe
        ·rw [if_neg hqe] at h ⊢
         have hB':=hB (by simpa using hqe)
         have hlen2:qn≤l.length - (N+1+pn+1):=by simpa using hB'.2.2.1
         split at h
         ·cases h
         ·rename_i h62
          rw [if_neg h62]
          have e62:=head_take l 62 (N+1+pn+1+qn) (by simpa using h62)
          have tk2:l.take (N+1+pn+1+qn)=l.take N++60 :: (showT pt++44 :: showT qt):=by rw [take_seg,hB'.2.2.2,e44.1,tk1];simp
          refine ⟨⟨hA'.1,hB'.1⟩,?_,e62.2,?_⟩
          ·show max _ _+1≤_
           have:=hA'.2.1
           have:=hB'.2.1
           omega
          ·dsimp only
           rw [e62.1,tk2,h2,h13]
           simp [showT]
      ·rw [if_neg h13] at h ⊢
       split at h
       ·cases h
       ·rename_i h62
        rw [if_neg h62]
        have e62:=head_take l 62 (N+1+pn) (by simpa using h62)
        refine ⟨⟨by unfold isKw at h1;omega,hA'.1⟩,?_,e62.2,?_⟩
        ·show _+1≤_
         have:=hA'.2.1
         omega
        ·dsimp only
         rw [e62.1,tk1]
         show _=wordK _++_
         rw [← h2]
         simp
def wholeT (l:List UInt8):Nat×Ty :=
 if (parT 12 l).1≠0 then ((parT 12 l).1,.bs 0) else if (parT 12 l).2.2<l.length then (2,.bs 0) else (0,(parT 12 l).2.1)
theorem wholeT_show (l:List UInt8) (h:(wholeT l).1=0):wfT (wholeT l).2∧depthT (wholeT l).2≤12∧l=showT (wholeT l).2:=by
 have hs:=parT_sound 12 l
 unfold wholeT at h ⊢
 split at h
 ·rename_i h1;exact absurd h h1
 ·rename_i h1
  rw [if_neg h1]
  have hs':=hs (by simpa using h1)
  split at h
  ·cases h
  ·rename_i h2
   rw [if_neg h2]
   refine ⟨hs'.1,hs'.2.1,?_⟩
   rw [← hs'.2.2.2,List.take_of_length_le (by omega)]
theorem wholeT_full (t:Ty) (hw:wfT t) (hd:depthT t≤12):wholeT (showT t)=(0,t):=by
 have h:=parT_full t 12 [] hw hd (.inl rfl)
 rw [List.append_nil] at h
 unfold wholeT
 rw [h,if_neg (by simp),if_neg (by simp)]
end Go.Proofs.YtpbjkgpdkopgmaaGreatDoor
namespace Go.Proofs.YtpbjkgpdkopgmaaGreatDoor
def isPartS:List UInt8→Bool
 | []=>false
 | c :: _=>!isDig c
theorem partN_le (l:List UInt8):partN l≤l.length:=spanN_le _ l
theorem partN_cons (c:UInt8) (l:List UInt8):partN (c :: l)=if c=46 then 0 else partN l+1:=by
 have e:partN (c :: l)=if decide (c≠46)=true then partN l+1 else 0:=rfl
 rw [e]
 by_cases h:c=46 <;> simp [h]
theorem index_dot (l:List UInt8):Lib.index l [46]=if partN l<l.length then (partN l:Int) else -1:=by
 induction l with
 | nil=>rfl
 | cons c l ih =>
  unfold Lib.index
  rw [ih,partN_cons]
  by_cases h:c=46
  ·subst h;simp [List.isPrefixOf]
  ·have h':([46].isPrefixOf (c :: l))=false:=by simp [List.isPrefixOf];exact fun e=>h e.symm
   rw [if_neg (by simp [h'])]
   have hl:=partN_le l
   by_cases hlt:partN l<l.length
   ·rw [if_pos hlt,if_neg (by simp),if_neg h,if_pos (by simpa using hlt)];simp
   ·rw [if_neg hlt,if_pos (by simp),if_neg h,if_neg (by simpa using hlt)]
theorem cut_dot (l:List UInt8):Lib.cut l [46]=(l.take (partN l),if partN l<l.length then l.drop (partN l+1) else [],decide (partN l<l.length)):=by
 unfold Lib.cut
 rw [index_dot]
 have hl:=partN_le l
 by_cases hlt:partN l<l.length
 ·rw [if_pos hlt,if_pos (by simp),if_pos hlt,decide_eq_true hlt];simp
 ·rw [if_neg hlt,if_neg (by simp),if_neg hlt,decide_eq_false hlt,List.take_of_length_le (by omega)]
theorem farF_false (l:List UInt8):farF false l=if partN l<l.length then farF true (l.drop (partN l+1)) else true:=by
 induction l with
 | nil=>rfl
 | cons c l ih =>
  have e:farF false (c :: l)=farF (decide (c=46)) l:=rfl
  rw [e,partN_cons]
  by_cases h:c=46
  ·subst h;rw [if_pos rfl,if_pos (by simp)];rfl
  ·rw [decide_eq_false h,ih,if_neg h,List.length_cons,List.drop_succ_cons]
   by_cases h2:partN l<l.length
   ·rw [if_pos h2,if_pos (by omega)]
   ·rw [if_neg h2,if_neg (by omega)]
theorem farF_true (l:List UInt8):farF true l=(isPartS (l.take (partN l)) && (if partN l<l.length then farF true (l.drop (partN l+1)) else true)):=by
 cases l with
 | nil=>rfl
 | cons c l =>
  have e:farF true (c :: l)=((!isDig c && decide (c≠46)) && farF false l):=rfl
  rw [e,partN_cons]
  by_cases h:c=46
  ·subst h;rw [if_pos rfl];rfl
  ·rw [farF_false,if_neg h,List.length_cons,List.drop_succ_cons,List.take_succ_cons]
   have e2:isPartS (c :: l.take (partN l)) = !isDig c:=rfl
   rw [e2,show decide (c≠46)=true from decide_eq_true h,Bool.and_true]
   by_cases h2:partN l<l.length
   ·rw [if_pos h2,if_pos (by omega)]
   ·rw [if_neg h2,if_neg (by omega)]
end Go.Proofs.YtpbjkgpdkopgmaaGreatDoor
namespace Go.Proofs.YtpbjkgpdkopgmaaGreatDoor
open Go.RowKit
section
variable {α:Type} {f:α→Array Value} {k:Nat} {T:TypeId}
def rowL (f:α→Array Value) (xs:List α):List Value:=xs.flatMap fun x=>(f x).toList
theorem rowL_snoc (xs:List α) (x:α):rowL f (xs++[x])=rowL f xs++(f x).toList:=by
 unfold rowL;simp
theorem rowL_get (hf:∀ x,(f x).size=k) (xs:List α) (i:Nat) (hi:i<xs.length) (j:Nat) (hj:j<k):(rowL f xs)[i * k+j]? = (f xs[i])[j]?:=by
 induction xs generalizing i with
 | nil=>simp at hi
 | cons x xs ih =>
  have e:rowL f (x :: xs)=(f x).toList++rowL f xs:=rfl
  have e5:(f x).toList.length=k:=by rw [Array.length_toList];exact hf x
  rw [e]
  cases i with
  | zero =>
   rw [List.getElem?_append_left (by rw [e5];omega),Nat.zero_mul,Nat.zero_add]
   simp
  | succ i =>
   have e6:(i+1) * k=i * k+k:=Nat.succ_mul i k
   rw [List.getElem?_append_right (by rw [e5];omega),e5]
   have:(i+1) * k+j - k=i * k+j:=by omega
   rw [this,ih i (by simpa using hi)]
   simp
def OwnS (f:α→Array Value) (k:Nat) (T:TypeId) (w:World) (B:Nat) (v:Value) (xs:List α):Prop:=w.ownsRow B T k v xs.length (rowL f xs)
def RdS (f:α→Array Value) (k:Nat) (w:World) (A:Option Addr) (xs:List α):Prop :=
 0<xs.length→∃ g,A=some ⟨g,0,none⟩∧g<w.heap.size∧∀ i (h:i<xs.length) j,j<k→w.cell? ⟨g,i * k+j,none⟩=(f xs[i])[j]?
theorem OwnS.nil_ (w:World) (B:Nat):OwnS f k T w B (.slice none 0 0) []:=World.ownsRow_nil w B _ _
theorem OwnS.alloc {w:World} {B:Nat} {v:Value} {xs:List α} (h:OwnS f k T w B v xs) (o:Obj):OwnS f k T (w.alloc o) B v xs:=World.ownsRow.alloc h o
theorem OwnS.less {w:World} {B B':Nat} {v:Value} {xs:List α} (h:OwnS f k T w B v xs) (hB:B'≤B):OwnS f k T w B' v xs:=by
 obtain ⟨h1,h2⟩:=h
 refine ⟨h1,?_⟩
 rcases h2 with h2 | ⟨g,cap,cur,hv,hg,r⟩
 ·exact .inl h2
 ·exact .inr ⟨g,cap,cur,hv,by omega,r⟩
theorem OwnS.nx {w w':World} {B:Nat} {v:Value} {xs:List α} (h:OwnS f k T w B v xs) (ho:Nx w w'):OwnS f k T w' B v xs:=by
 obtain ⟨h1,h2⟩:=h
 refine ⟨h1,?_⟩
 rcases h2 with h2 | ⟨g,cap,cur,hv,hg,hh,r⟩
 ·exact .inl h2
 ·refine .inr ⟨g,cap,cur,hv,hg,?_,r⟩
  rw [ho.block g ?_];exact hh
  rcases Nat.lt_or_ge g w.heap.size with h | h
  ·exact h
  ·rw [Array.getElem?_eq_none h] at hh;cases hh
theorem OwnS.sl (hf:∀ x,(f x).size=k) {w:World} {B:Nat} {v:Value} {xs:List α} (h:OwnS f k T w B v xs):∃ A c,v = .slice A xs.length c∧xs.length≤c∧c≤maxLen∧RdS f k w A xs:=by
 obtain ⟨h1,h2⟩:=h
 rcases h2 with ⟨rfl,h0⟩ | ⟨g,cap,cur,rfl,hg,hh,hn,hm,hs,ht⟩
 ·have:xs=[]:=List.eq_nil_of_length_eq_zero h0
  subst this
  exact ⟨none,0,rfl,Nat.le_refl _,Nat.zero_le _,fun h=>by simp at h⟩
 ·refine ⟨_,cap,rfl,hn,hm,fun _=>⟨g,rfl,?_,fun i hi j hj=>?_⟩⟩
  ·rcases Nat.lt_or_ge g w.heap.size with h | h
   ·exact h
   ·rw [Array.getElem?_eq_none h] at hh;cases hh
  ·have hlt:i * k+j<xs.length * k:=by
    have h1:(i+1) * k≤xs.length * k:=Nat.mul_le_mul_right k hi
    have h2:(i+1) * k=i * k+k:=Nat.succ_mul i k
    omega
   rw [cell_of_row w g (i * k+j) cur _ (0,0) hh,← rowL_get hf xs i hi j hj,← ht,List.getElem?_take,if_pos (by simpa using hlt)]
   simp
theorem RdS.nx {w w':World} {A:Option Addr} {xs:List α} (h:RdS f k w A xs) (hn:Nx w w'):RdS f k w' A xs:=fun h0=>by
 obtain ⟨g,e,hg,hc⟩:=h h0
 refine ⟨g,e,Nat.lt_of_lt_of_le hg hn.size,fun i hi j hj=>?_⟩
 rw [← hc i hi j hj]
 unfold World.cell?
 simp only
 rw [hn.block g hg]
end
section
variable (w:World) {ops:Array Oper} {rest:List Oper} {o:Oper} {a:Act} {Q:Exit→Act→World→Prop} {α:Type} {f:α→Array Value} {k sz:Nat} {T T2:TypeId} {z:Value}
end
end Go.Proofs.YtpbjkgpdkopgmaaGreatDoor
namespace Go.Proofs.YtpbjkgpdkopgmaaGreatDoor
open Go.RowKit
set_option maxRecDepth 100000 in
set_option maxHeartbeats 800000 in
theorem kisLetter_any (c:UInt8) (w:World) :
  Calls Tryz.prog 240 #[.int .u8 (c.toNat:Int)] w fun e w'=>e = .returned (.bool (isLetS c))∧w'=w:=by
 go_enter Tryz.func240,Tryz.ntmps240
 go_wp2_with fail
 all_goals
  go_ret
  refine ⟨congrArg (fun b=>Ending.returned (Value.bool b)) ?_,rfl⟩
  rw [Bool.eq_iff_iff]
  simp [isLetS]
  omega
set_option maxRecDepth 100000 in
set_option maxHeartbeats 800000 in
theorem kisDigit_any (c:UInt8) (w:World) :
  Calls Tryz.prog 241 #[.int .u8 (c.toNat:Int)] w fun e w'=>e = .returned (.bool (isDig c))∧w'=w:=by
 go_enter Tryz.func241,Tryz.ntmps241
 go_wp2_with fail
 all_goals
  go_ret
  refine ⟨congrArg (fun b=>Ending.returned (Value.bool b)) ?_,rfl⟩
  rw [Bool.eq_iff_iff]
  simp [isDig]
  omega
set_option maxRecDepth 100000 in
set_option maxHeartbeats 1600000 in
theorem kisOfName_any (c:UInt8) (w:World) :
  Calls Tryz.prog 211 #[.int .u8 (c.toNat:Int)] w fun e w'=>e = .returned (.bool (isNmS c))∧w'=w:=by
 go_enter Tryz.func211,Tryz.ntmps211
 go_wp2_with fail
 refine (kisLetter_any c w).mono ?_;rintro e w' ⟨rfl,rfl⟩
 obtain ⟨L,HL⟩:∃ L,Hid (isLetS c=L):=⟨_,rfl⟩
 rw [HL.out]
 cases L
 ·go_wp2_with fail
  refine (kisDigit_any c _).mono ?_;rintro e w' ⟨rfl,rfl⟩
  obtain ⟨D,HD⟩:∃ D,Hid (isDig c=D):=⟨_,rfl⟩
  rw [HD.out]
  cases D
  ·go_wp2_with fail
   all_goals
    go_ret
    refine ⟨congrArg (fun b=>Ending.returned (Value.bool b)) ?_,rfl⟩
    rw [Bool.eq_iff_iff]
    simp [isNmS,HL.out,HD.out]
    omega
  ·go_wp2_with fail
   go_ret
   refine ⟨congrArg (fun b=>Ending.returned (Value.bool b)) ?_,rfl⟩
   simp [isNmS,HL.out,HD.out]
 ·go_wp2_with fail
  go_ret
  refine ⟨congrArg (fun b=>Ending.returned (Value.bool b)) ?_,rfl⟩
  simp [isNmS,HL.out]
set_option maxRecDepth 100000 in
set_option maxHeartbeats 800000 in
theorem isPart_any (s:ByteArray) (l:List UInt8) (w:World) (hl:Tx s l) :
  Calls Tryz.prog 214 #[.string s] w fun e w'=>e = .returned (.bool (isPartS l))∧w'=w:=by
 cases l with
 | nil =>
  have e1:=hl.nil.1
  have e2:s.toList.isEmpty=true:=by rw [e1];rfl
  have HL:=Lib.hid hl
  clear hl
  go_enter Tryz.func214,Tryz.ntmps214
  go_wp2_with fail
  go_ret
  exact ⟨rfl,rfl⟩
 | cons c l =>
  obtain ⟨hp,t,e0,e1,ht,e2,e3⟩:=hl.cons
  have HL:=Lib.hid hl
  clear hl ht e1
  go_enter Tryz.func214,Tryz.ntmps214
  go_wp2_with fail
  refine (kisDigit_any c w).mono ?_;rintro e w' ⟨rfl,rfl⟩
  go_wp2_with fail
  go_ret
  exact ⟨rfl,rfl⟩
theorem wpList_bytes {P:Program} (w:World) {ops:Array Oper} {rest:List Oper} {o:Oper} {a:Act} {Q:Exit→Act→World→Prop} {src dst e:TypeId} (hgd:o.guard=none) (x:Operand) (ho:o.op = .convert src dst x) (hs:P.underlying src=some .string) (hd:P.underlying dst=some (.slice e)) (he:P.underlying e=some (.int .u8))
  (s:ByteArray) (l:List UInt8) (hl:Tx s l) (hx:a.eval x = .string s)
  (h:∀ c w',Rd bv w' (some ⟨w.heap.size,0,none⟩) l→Nx w w'→wpList P ops Q rest (a.put o.dst (.slice (some ⟨w.heap.size,0,none⟩) l.length c)) w'):wpList P ops Q (o :: rest) a w:=by
 refine wpList_plain hgd fun K hK=>?_
 have hrun:=Lib.run_convert_string_bytes (P:=P) w src dst e s hs hd he
 have hn:Nx w (Lib.bytesWorld w e s):=Joins.below_bytesWorld _ w e s (Nat.le_refl _)
 have hr:Rd bv (Lib.bytesWorld w e s) (some ⟨w.heap.size,0,none⟩) l:=by
  intro h0
  refine ⟨w.heap.size,0,rfl,by rw [Lib.bytesWorld_size];omega,fun j hj=>?_⟩
  rw [Nat.zero_add,Lib.bytesWorld_cell w e s j (by rw [hl.size];exact hj),show s.data.toList=l from hl]
  simp [bv,hj]
 have:=hK _ _ (h (grownCap w s.size 0 e) _ hr hn)
 unfold Oper.wp execOp
 simp only [ho,Sem.run_bind,Sem.run_pure,Result.andThen_ok,hx,hrun]
 rw [hl.size] at *
 exact this
set_option maxRecDepth 100000 in
set_option maxHeartbeats 800000 in
theorem fresh_any (s:ByteArray) (w:World) :
  Calls Tryz.prog 79 #[.string s] w fun e w'=>e = .returned (.string s)∧Nx w w':=by
 obtain ⟨l,hl⟩:∃ l,Tx s l:=⟨_,rfl⟩
 have he:=Lib.hid hl.eq
 go_enter Tryz.func79,Tryz.ntmps79
 go_wp2_with (first
  | (refine wpList_bytes _ (o:=⟨some 4,_,_,_,_,_⟩) rfl _ rfl Tryz.underlying9 Tryz.underlying22 Tryz.underlying5 s l hl rfl ?_;intro c1 w1 hr1 hw1)
  | (refine wpList_str _ (o:=⟨some 5,_,_,_,_,_⟩) rfl _ rfl Tryz.underlying22 Tryz.underlying5 Tryz.underlying9 _ l _ rfl hr1 ?_;intro t HT ht1 ht2))
 go_ret
 rw [HT.out,← he.out]
 exact ⟨rfl,hw1⟩
def kwB (k:Nat):ByteArray:=⟨(wordK k).toArray⟩
def kwV:Array Value:=#[.string (kwB 0),.string (kwB 1),.string (kwB 2),.string (kwB 3),.string (kwB 4),.string (kwB 5),.string (kwB 6),.string (kwB 7),.string (kwB 8),.string (kwB 9),.string (kwB 10),.string (kwB 11),.string (kwB 12),.string (kwB 13),.string (kwB 14),.string (kwB 15),.string (kwB 16)]
def TabK (w:World):Prop:=∃ t fr,w.heap[1]? = some (.cells kwV t fr)
theorem TabK.nx {w w':World} (h:TabK w) (hn:Nx w w'):TabK w':=by
 obtain ⟨t,fr,h⟩:=h
 refine ⟨t,fr,?_⟩
 rw [hn.block _ ?_]
 ·exact h
 ·rcases Nat.lt_or_ge 1 w.heap.size with h1 | h1
  ·exact h1
  ·rw [Array.getElem?_eq_none h1] at h;cases h
theorem kwV_at (i:Nat) (h:i<17):kwV[i]? = some (.string (kwB i)):=by
 have h':i ∈ List.range 17:=List.mem_range.2 h
 simp only [List.range,List.range.loop,List.mem_cons,List.not_mem_nil,or_false] at h'
 rcases h' with rfl | rfl | rfl | rfl | rfl | rfl | rfl | rfl | rfl | rfl | rfl | rfl | rfl | rfl | rfl | rfl | rfl <;> rfl
theorem wpList_index_arr {P:Program} (w:World) {ops:Array Oper} {rest:List Oper} {o:Oper} {a:Act} {Q:Exit→Act→World→Prop} (hgd:o.guard=none) (t e:TypeId) (n:Nat) (x i:Operand) (ho:o.op = .index t x i)
  (ht:P.underlying t=some (.array n e)) (d:TypeDesc) (he:P.underlying e=some d) (hd:(match d with | .struct _ | .array _ _=>false | _=>true)=true) (hz:(P.info? e).map (·.size)=some 1)
  (cs:Array Value) (hx:a.eval x = .agg cs) (k:Nat) (hi:a.eval i = .int .i64 k) (hk:k<n) (v:Value) (hv:cs[k]? = some v)
  (h:wpList P ops Q rest (a.put o.dst v) w):wpList P ops Q (o :: rest) a w:=by
 refine wpList_plain hgd fun K hK=>?_
 have:=hK _ _ h
 have hagg:(isAgg e).run P w = .ok false w:=by
  unfold isAgg
  rw [Sem.run_bind,run_underlying he w]
  cases d <;> simp_all
 have hk':(0:Int)≤(k:Int)∧(k:Int)<(n:Int):=by omega
 cases hq:P.info? e with
 | none=>rw [hq] at hz;cases hz
 | some inf =>
  have hs:inf.size=1:=by rw [hq] at hz;simpa using hz
  have hrun:(Instr.index t (.agg cs) (.int .i64 k)).run P w = .ok v w:=by
   unfold Instr.index
   simp only [asIntOf,Sem.run_bind,Sem.run_pure,Result.andThen_ok,run_underlying ht]
   rw [if_pos hk']
   simp [Sem.run_bind,sizeOf,typeInfo,hq,hs,part,hagg,hv]
  unfold Oper.wp execOp
  simp only [ho,Sem.run_bind,Sem.run_pure,Result.andThen_ok,hx,hi,hrun]
  exact this
theorem kind_at (l:List UInt8) (k:Nat) (hk:k<17) (h1:∀ j,j<k→wordK j≠l) (h2:wordK k=l):kindW l=k:=by
 subst h2
 have h':k ∈ List.range 17:=List.mem_range.2 hk
 simp only [List.range,List.range.loop,List.mem_cons,List.not_mem_nil,or_false] at h'
 rcases h' with rfl | rfl | rfl | rfl | rfl | rfl | rfl | rfl | rfl | rfl | rfl | rfl | rfl | rfl | rfl | rfl | rfl <;> first | decide | exact absurd rfl (h1 0 (by decide))
theorem kind_no (l:List UInt8) (h:∀ j,j<17→wordK j≠l):kindW l=0:=by
 rcases kindW_is l with h0 | ⟨h1,h2⟩
 ·exact h0
 ·exact absurd h2.symm (h _ (by unfold isKw at h1;omega))
set_option maxRecDepth 100000 in
set_option maxHeartbeats 1600000 in
theorem kindOf_any (s:ByteArray) (l:List UInt8) (w:World) (hl:Tx s l) (ht:TabK w) :
  Calls Tryz.prog 175 #[.string s] w fun e w'=>e = .returned (.int .i64 (kindW l:Nat))∧w'=w:=by
 have HL:=Lib.hid hl
 have HT:=Lib.hid ht
 obtain ⟨tt,fr,hg⟩:=ht
 clear hl
 go_enter Tryz.func175,Tryz.ntmps175
 go_wp2_with (refine wpList_load_row rfl _ _ rfl 1 rfl tt kwV fr _ hg Tryz.underlying241 rfl (by kernel_rfl) ?_)
 go_loop [6] (fun i=>∃ k:Nat,k≤17∧i = .int .i64 k∧Hid (∀ j,j<k→wordK j≠l)) (fun i=>17 - (intOf i).toNat)
 case atStart=>exact ⟨0,by decide,rfl,fun j hj=>by omega⟩
 case round =>
  obtain ⟨k,hk,rfl,HK⟩:=hrel
  by_cases hlt:k<17
  ·have hkI:(k:Int)<17:=by omega
   have hkd:decide ((k:Int)<17)=true:=decide_eq_true hkI
   have hat:=kwV_at k hlt
   have hbt:((kwB k).toList == s.toList)=decide (wordK k=l):=by
    rw [HL.out.toL,show (kwB k).toList=wordK k from (Tx.of (wordK k)).toL,Bool.eq_iff_iff]
    simp
   by_cases he:wordK k=l
   ·rw [decide_eq_true he] at hbt
    have HR:=Lib.hid (kind_at l k hlt HK.out he)
    clear he
    go_wp2_with (refine wpList_index_arr _ (o:=⟨some 9,_,_,_,_,_⟩) rfl _ _ 17 _ _ rfl Tryz.underlying241 _ Tryz.underlying9 rfl (by kernel_rfl) kwV rfl k rfl hlt _ hat ?_)
    go_ret
    rw [HR.out]
    exact ⟨rfl,rfl⟩
   ·rw [decide_eq_false he] at hbt
    have HE:=Lib.hid he
    clear he
    go_wp2_with (refine wpList_index_arr _ (o:=⟨some 9,_,_,_,_,_⟩) rfl _ _ 17 _ _ rfl Tryz.underlying241 _ Tryz.underlying9 rfl (by kernel_rfl) kwV rfl k rfl hlt _ hat ?_)
    go_round
    case rel=>exact ⟨k+1,by omega,by go_num,fun j hj=>by
     rcases Nat.lt_or_ge j k with h | h
     ·exact HK.out j h
     ·obtain rfl:j=k:=by omega
      exact HE.out⟩
    case measure=>simp [intOf];omega
  ·obtain rfl:k=17:=by omega
   have HR:=Lib.hid (kind_no l HK.out)
   go_wp2_with fail
   go_ret
   rw [HR.out]
   exact ⟨rfl,rfl⟩
theorem cut_parts (l:List UInt8):∃ A B C,Hid (Lib.cut l [46]=(A,B,C))∧Hid (farF true l=(isPartS A && (!C || farF true B)))∧Hid (nameOk l=(farF true l && decide (kindW A=0)))∧A.length≤l.length∧B.length≤l.length∧(C=true→B.length<l.length):=by
 refine ⟨l.take (partN l),if partN l<l.length then l.drop (partN l+1) else [],decide (partN l<l.length),cut_dot l,?_,rfl,by simp [Nat.min_le_right],?_,?_⟩
 ·unfold Hid
  rw [farF_true]
  by_cases h:partN l<l.length
  ·rw [if_pos h,if_pos h,decide_eq_true h];rfl
  ·rw [if_neg h,if_neg h,decide_eq_false h];rfl
 ·split <;> simp
 ·intro h
  have h:=of_decide_eq_true h
  rw [if_pos h,List.length_drop];omega
set_option maxRecDepth 100000 in
set_option maxHeartbeats 1600000 in
theorem isName_any (s:ByteArray) (l:List UInt8) (w:World) (hl:Tx s l) (hs:(l.length:Int)≤100000) (ht:TabK w) (hm:MaxC w) :
  Calls Tryz.prog 177 #[.string s] w fun e w'=>e = .returned (.bool (nameOk l))∧∃ n,w'=w.drewN n:=by
 have HL:=Lib.hid hl
 have HT:=Lib.hid ht
 obtain ⟨m,hm⟩:=hm
 have HM:=Lib.hid hm
 have hz:s.size<4294967281:=by rw [hl.size];omega
 have HZ:=Lib.hid hz
 obtain ⟨A,B,C,HC,HF,HN,hA,hB,hC⟩:=cut_parts l
 have HC':=Lib.hid hC
 clear hl ht hm hz hC
 go_enter Tryz.func177,Tryz.ntmps177
 go_wp2_with fail
 refine (Tryz.strings_Cut s ⟨#[46]⟩ m w HZ.out HM.out).mono ?_;rintro e w1 ⟨rfl,n1,hw1⟩
 subst hw1
 rw [show s.data.toList=l from HL.out,show (ByteArray.mk #[46]).data.toList=[46] from rfl,HC.out]
 dsimp only
 go_wp2_with fail
 refine (kindOf_any ⟨A.toArray⟩ A _ (Tx.of _) (HT.out.nx (Nx.drewN w n1))).mono ?_;rintro e w' ⟨rfl,rfl⟩
 by_cases hk:kindW A=0
 ·have HNO2:Hid (nameOk l=farF true l):=by unfold Hid;rw [HN.out,decide_eq_true hk,Bool.and_true]
  rw [hk]
  clear hk
  go_wp2_with fail
  go_loopw [3,4,5] (fun p r m wr=>∃ (A B:List UInt8) (C:Bool) (n:Nat),p = .string ⟨A.toArray⟩∧r = .string ⟨B.toArray⟩∧m = .bool C∧Hid ((isPartS A && (!C || farF true B))=nameOk l)∧B.length≤l.length∧(C=false∨B.length<l.length)∧wr=w.drewN n) (fun _ r m _=>match r,m with | .string b,.bool true=>b.size+1 | _,_=>0)
  case atStart=>exact ⟨A,B,C,n1,rfl,rfl,rfl,by unfold Hid;rw [HNO2.out,HF.out],hB,by cases C;exact .inl rfl;exact .inr (HC'.out rfl),rfl⟩
  case round =>
   obtain ⟨A',B',C',n,rfl,rfl,rfl,HX,hB',hC',rfl⟩:=hrel
   go_wp2_with fail
   refine (isPart_any ⟨A'.toArray⟩ A' _ (Tx.of _)).mono ?_;rintro e w' ⟨rfl,rfl⟩
   obtain ⟨P,HP⟩:∃ P,Hid (isPartS A'=P):=⟨_,rfl⟩
   rw [HP.out] at HX ⊢
   cases P
   ·go_wp2_with fail
    go_ret
    exact ⟨congrArg (fun b=>Ending.returned (Value.bool b)) HX.out,_,rfl⟩
   ·cases C'
    ·go_wp2_with fail
     go_ret
     exact ⟨congrArg (fun b=>Ending.returned (Value.bool b)) HX.out,_,rfl⟩
    ·obtain ⟨A2,B2,C2,HC2,HF2,-,hA2,hB2,hC2⟩:=cut_parts B'
     have HC2':=Lib.hid hC2
     clear hC2
     have hz2:(ByteArray.mk B'.toArray).size<4294967281:=by rw [(Tx.of B').size];omega
     have HZ2:=Lib.hid hz2
     clear hz2
     go_wp2_with fail
     refine (Tryz.strings_Cut ⟨B'.toArray⟩ ⟨#[46]⟩ m (w.drewN n) HZ2.out HM.out).mono ?_;rintro e w2 ⟨rfl,n2,hw2⟩
     subst hw2
     rw [show (ByteArray.mk B'.toArray).data.toList=B' from rfl,show (ByteArray.mk #[46]).data.toList=[46] from rfl,HC2.out]
     dsimp only
     go_wp2_with fail
     go_roundw
     case rel =>
      refine ⟨A2,B2,C2,n+n2,rfl,rfl,rfl,?_,by omega,?_,rfl⟩
      ·unfold Hid
       rw [← HX.out,← HF2.out];rfl
      ·rcases hC' with h | h
       ·cases h
       ·exact .inr (by omega)
     case measure =>
      have h1:(ByteArray.mk B'.toArray).size=B'.length:=(Tx.of B').size
      have h2:(ByteArray.mk B2.toArray).size=B2.length:=(Tx.of B2).size
      have h3:=HC2'.out
      cases C2
      ·simp
      ·have:=h3 rfl
       simp only [h1,h2]
       omega
 ·have hk2:((kindW A:Int) != 0)=true:=by rw [bne_iff_ne];omega
  have HNO2:Hid (nameOk l=false):=by unfold Hid;rw [HN.out,decide_eq_false hk,Bool.and_false]
  clear hk
  go_wp2_with fail
  go_ret
  rw [HNO2.out]
  exact ⟨rfl,_,rfl⟩
end Go.Proofs.YtpbjkgpdkopgmaaGreatDoor
