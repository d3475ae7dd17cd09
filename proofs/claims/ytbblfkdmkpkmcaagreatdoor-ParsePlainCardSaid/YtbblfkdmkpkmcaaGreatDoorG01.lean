/- The text of types: as a tree, and as a function of its bytes. Plain lemmas. A file of definitions, read off its words: as a function. What a call owns at any offset of a block, and append onto it. -/
import Derived.Test.YtbblfkdmkpkmcaaGreatDoorG00
import Derived.ArgAppend
import Derived.Lib.AppendZeros
import Derived.Lib.AppendZerosOnto
set_option linter.unusedVariables false
set_option linter.unusedSimpArgs false
set_option linter.unnecessarySimpa false
namespace Go.Proofs.YtbblfkdmkpkmcaaGreatDoor
def wordK (k:Nat):List UInt8 :=
 if k=2 then [98,111,111,108] else if k=3 then [105,56] else if k=4 then [100,111,117,98,108,101]
 else if k=6 then [105,49,54] else if k=8 then [105,51,50] else if k=10 then [105,54,52]
 else if k=11 then [115,116,114,105,110,103] else if k=13 then [109,97,112] else if k=14 then [115,101,116]
 else if k=15 then [108,105,115,116] else if k=16 then [98,105,110,97,114,121] else []
def kindW (l:List UInt8):Nat :=
 if l=[98,111,111,108] then 2 else if l=[105,56] then 3 else if l=[100,111,117,98,108,101] then 4
 else if l=[105,49,54] then 6 else if l=[105,51,50] then 8 else if l=[105,54,52] then 10
 else if l=[115,116,114,105,110,103] then 11 else if l=[109,97,112] then 13 else if l=[115,101,116] then 14
 else if l=[108,105,115,116] then 15 else if l=[98,105,110,97,114,121] then 16 else 0
def isKw (k:Nat):Prop:=k=2∨k=3∨k=4∨k=6∨k=8∨k=10∨k=11∨k=13∨k=14∨k=15∨k=16
def isBs (k:Nat):Prop:=k=2∨k=3∨k=4∨k=6∨k=8∨k=10∨k=11∨k=16
theorem kindW_is (l:List UInt8):kindW l=0∨(isKw (kindW l)∧l=wordK (kindW l)):=by
 unfold kindW
 repeat' split
 all_goals (first | exact .inl rfl | (subst l;exact .inr ⟨by simp [isKw],by simp [wordK]⟩))
theorem kindW_word (k:Nat) (h:isKw k):kindW (wordK k)=k:=by
 rcases h with rfl | rfl | rfl | rfl | rfl | rfl | rfl | rfl | rfl | rfl | rfl <;> decide
theorem wordK_nm (k:Nat) (h:isKw k):∀ c ∈ wordK k,isNmS c=true:=by
 rcases h with rfl | rfl | rfl | rfl | rfl | rfl | rfl | rfl | rfl | rfl | rfl <;> decide
theorem wordK_len (k:Nat) (h:isKw k):2≤(wordK k).length∧(wordK k).length≤6:=by
 rcases h with rfl | rfl | rfl | rfl | rfl | rfl | rfl | rfl | rfl | rfl | rfl <;> decide
def farF:Bool→List UInt8→Bool
 | b,[]=>!b
 | true,c :: r=>(!isDig c && decide (c≠46)) && farF false r
 | false,c :: r=>farF (decide (c=46)) r
def partN (l:List UInt8):Nat:=spanN (fun c=>decide (c≠46)) l
def nameOk (l:List UInt8):Bool:=farF true l && decide (kindW (l.take (partN l))=0)
inductive Ty where
 | nm (s:List UInt8)
 | bs (k:Nat)
 | l1 (k:Nat) (a:Ty)
 | mp (a b:Ty)
def showT:Ty→List UInt8
 | .nm s=>s
 | .bs k=>wordK k
 | .l1 k a=>wordK k++60 :: (showT a++[62])
 | .mp a b=>wordK 13++60 :: (showT a++44 :: (showT b++[62]))
def depthT:Ty→Nat
 | .nm _=>0
 | .bs _=>0
 | .l1 _ a=>depthT a+1
 | .mp a b=>max (depthT a) (depthT b)+1
def namesT:Ty→List (List UInt8)
 | .nm s=>[s]
 | .bs _=>[]
 | .l1 _ a=>namesT a
 | .mp a b=>namesT a++namesT b
def wfT:Ty→Prop
 | .nm s=>nameOk s=true∧∀ c ∈ s,isNmS c=true
 | .bs k=>isBs k
 | .l1 k a=>(k=14∨k=15)∧wfT a
 | .mp a b=>wfT a∧wfT b
def headT:Ty→Nat×List UInt8×List UInt8×List UInt8
 | .nm s=>(0,s,[],[])
 | .bs k=>(k,[],[],[])
 | .l1 k a=>(k,[],showT a,[])
 | .mp a b=>(13,[],showT a,showT b)
def noTy (e:Nat):Nat×Ty×Nat:=(e,.bs 0,0)
def parT:Nat→List UInt8→Nat×Ty×Nat
 | 0,l =>
  if kindW (l.take (spanN isNmS l))=0 then (if nameOk (l.take (spanN isNmS l)) then (0,.nm (l.take (spanN isNmS l)),spanN isNmS l) else noTy 2)
  else if kindW (l.take (spanN isNmS l))≠13∧kindW (l.take (spanN isNmS l))≠14∧kindW (l.take (spanN isNmS l))≠15 then (0,.bs (kindW (l.take (spanN isNmS l))),spanN isNmS l)
  else noTy 6
 | r+1,l =>
  if kindW (l.take (spanN isNmS l))=0 then (if nameOk (l.take (spanN isNmS l)) then (0,.nm (l.take (spanN isNmS l)),spanN isNmS l) else noTy 2)
  else if kindW (l.take (spanN isNmS l))≠13∧kindW (l.take (spanN isNmS l))≠14∧kindW (l.take (spanN isNmS l))≠15 then (0,.bs (kindW (l.take (spanN isNmS l))),spanN isNmS l)
  else if (l.drop (spanN isNmS l)).head?≠some 60 then noTy 2
  else
   let p:=parT r (l.drop (spanN isNmS l+1))
   if p.1≠0 then noTy p.1
   else if kindW (l.take (spanN isNmS l))=13 then
    if (l.drop (spanN isNmS l+1+p.2.2)).head?≠some 44 then noTy 2
    else
     let q:=parT r (l.drop (spanN isNmS l+1+p.2.2+1))
     if q.1≠0 then noTy q.1
     else if (l.drop (spanN isNmS l+1+p.2.2+1+q.2.2)).head?≠some 62 then noTy 2
     else (0,.mp p.2.1 q.2.1,spanN isNmS l+1+p.2.2+1+q.2.2+1)
   else if (l.drop (spanN isNmS l+1+p.2.2)).head?≠some 62 then noTy 2
   else (0,.l1 (kindW (l.take (spanN isNmS l))) p.2.1,spanN isNmS l+1+p.2.2+1)
theorem dropA (w X:List UInt8) (n:Nat):(w++X).drop (w.length+n)=X.drop n:=by
 induction w with
 | nil=>simp
 | cons c w ih=>simpa [Nat.add_right_comm] using ih
theorem span_app (w rest:List UInt8) (h1:∀ c ∈ w,isNmS c=true) (h2:rest=[]∨∃ c t,rest=c :: t∧isNmS c=false):spanN isNmS (w++rest)=w.length :=
 spanN_is _ _ _ (by simp) (by simpa using h1) (by simpa using h2)
theorem far_ne:farF true []=false:=rfl
theorem kind_name (s:List UInt8) (h:nameOk s=true):kindW s=0:=by
 rcases kindW_is s with h0 | ⟨h1,h2⟩
 ·exact h0
 ·exfalso
  unfold nameOk at h
  rw [h2] at h
  rcases h1 with h1 | h1 | h1 | h1 | h1 | h1 | h1 | h1 | h1 | h1 | h1 <;> rw [h1] at h <;> revert h <;> decide
theorem bs_kw {k:Nat} (h:isBs k):isKw k:=by unfold isBs at h;unfold isKw;omega
theorem bs_ne {k:Nat} (h:isBs k):k≠0∧k≠13∧k≠14∧k≠15:=by unfold isBs at h;omega
theorem parT_full:∀ (t:Ty) (r:Nat) (rest:List UInt8),wfT t→depthT t≤r→(rest=[]∨∃ c x,rest=c :: x∧isNmS c=false)→parT r (showT t++rest)=(0,t,(showT t).length):=by
 intro t
 induction t with
 | nm s =>
  intro r rest hw hd hr
  have h1:=span_app s rest hw.2 hr
  have h2:(s++rest).take s.length=s:=List.take_left
  have h3:=kind_name s hw.1
  have e:showT (.nm s)++rest=s++rest:=rfl
  rw [e]
  cases r <;> (unfold parT;rw [h1,h2,if_pos h3,if_pos hw.1];rfl)
 | bs k =>
  intro r rest hw hd hr
  have hk:=bs_kw hw
  have h1:=span_app (wordK k) rest (wordK_nm k hk) hr
  have h2:(wordK k++rest).take (wordK k).length=wordK k:=List.take_left
  have h3:=kindW_word k hk
  have h4:=bs_ne hw
  have e:showT (.bs k)++rest=wordK k++rest:=rfl
  rw [e]
  cases r <;> (unfold parT;rw [h1,h2,h3,if_neg h4.1,if_pos h4.2];rfl)
 | l1 k a ih =>
  intro r rest hw hd hr
  have hk:isKw k:=by rcases hw.1 with rfl | rfl <;> simp [isKw]
  cases r with
  | zero=>simp [depthT] at hd
  | succ r =>
   have e:showT (.l1 k a)++rest=wordK k++60 :: (showT a++62 :: rest):=by simp [showT]
   have h1:=span_app (wordK k) (60 :: (showT a++62 :: rest)) (wordK_nm k hk) (.inr ⟨60,_,rfl,by decide⟩)
   have h2:(wordK k++60 :: (showT a++62 :: rest)).take (wordK k).length=wordK k:=List.take_left
   have h3:=kindW_word k hk
   have hd0:(wordK k++60 :: (showT a++62 :: rest)).drop (wordK k).length=60 :: (showT a++62 :: rest):=by simpa using dropA (wordK k) (60 :: (showT a++62 :: rest)) 0
   have hd1:(wordK k++60 :: (showT a++62 :: rest)).drop ((wordK k).length+1)=showT a++62 :: rest:=by simpa using dropA (wordK k) (60 :: (showT a++62 :: rest)) 1
   have hd2:(wordK k++60 :: (showT a++62 :: rest)).drop ((wordK k).length+1+(showT a).length)=62 :: rest:=by
    rw [Nat.add_assoc,dropA,Nat.add_comm 1,List.drop_succ_cons]
    simpa using dropA (showT a) (62 :: rest) 0
   have hi:=ih r (62 :: rest) hw.2 (by simp [depthT] at hd;omega) (.inr ⟨62,_,rfl,by decide⟩)
   rw [e]
   unfold parT
   rw [h1,h2,h3,if_neg (by rcases hw.1 with rfl | rfl <;> simp),if_neg (by rcases hw.1 with rfl | rfl <;> simp),hd0,if_neg (by simp),hd1,hi]
   dsimp only
   rw [if_neg (by simp),if_neg (by rcases hw.1 with rfl | rfl <;> simp),hd2,if_neg (by simp)]
   simp [showT]
   omega
 | mp a b iha ihb =>
  intro r rest hw hd hr
  have hk:isKw 13:=by simp [isKw]
  cases r with
  | zero=>simp [depthT] at hd
  | succ r =>
   have e:showT (.mp a b)++rest=wordK 13++60 :: (showT a++44 :: (showT b++62 :: rest)):=by simp [showT]
   have h1:=span_app (wordK 13) (60 :: (showT a++44 :: (showT b++62 :: rest))) (wordK_nm 13 hk) (.inr ⟨60,_,rfl,by decide⟩)
   have h2:(wordK 13++60 :: (showT a++44 :: (showT b++62 :: rest))).take (wordK 13).length=wordK 13:=List.take_left
   have h3:=kindW_word 13 hk
   have hd0:(wordK 13++60 :: (showT a++44 :: (showT b++62 :: rest))).drop (wordK 13).length=60 :: (showT a++44 :: (showT b++62 :: rest)):=by simpa using dropA (wordK 13) (60 :: (showT a++44 :: (showT b++62 :: rest))) 0
   have hd1:(wordK 13++60 :: (showT a++44 :: (showT b++62 :: rest))).drop ((wordK 13).length+1)=showT a++44 :: (showT b++62 :: rest):=by simpa using dropA (wordK 13) (60 :: (showT a++44 :: (showT b++62 :: rest))) 1
   have hd2:(wordK 13++60 :: (showT a++44 :: (showT b++62 :: rest))).drop ((wordK 13).length+1+(showT a).length)=44 :: (showT b++62 :: rest):=by
    rw [Nat.add_assoc,dropA,Nat.add_comm 1,List.drop_succ_cons]
    simpa using dropA (showT a) (44 :: (showT b++62 :: rest)) 0
   have hd3:(wordK 13++60 :: (showT a++44 :: (showT b++62 :: rest))).drop ((wordK 13).length+1+(showT a).length+1)=showT b++62 :: rest:=by
    rw [← List.drop_drop,hd2];simp
   have hd4:(wordK 13++60 :: (showT a++44 :: (showT b++62 :: rest))).drop ((wordK 13).length+1+(showT a).length+1+(showT b).length)=62 :: rest:=by
    rw [← List.drop_drop,hd3]
    simpa using dropA (showT b) (62 :: rest) 0
   have hia:=iha r (44 :: (showT b++62 :: rest)) hw.1 (by simp [depthT] at hd;omega) (.inr ⟨44,_,rfl,by decide⟩)
   have hib:=ihb r (62 :: rest) hw.2 (by simp [depthT] at hd;omega) (.inr ⟨62,_,rfl,by decide⟩)
   rw [e]
   unfold parT
   rw [h1,h2,h3,if_neg (by simp),if_neg (by simp),hd0,if_neg (by simp),hd1,hia]
   dsimp only
   rw [if_neg (by simp),if_pos (rfl:(13:Nat)=13),hd2,if_neg (by simp),hd3,hib]
   dsimp only
   rw [if_neg (by simp),hd4,if_neg (by simp)]
   simp [showT]
   omega
theorem parT_deep:∀ (t:Ty) (r:Nat) (rest:List UInt8),wfT t→r<depthT t→(parT r (showT t++rest)).1=6:=by
 intro t
 induction t with
 | nm s=>intro r rest hw hd;simp [depthT] at hd
 | bs k=>intro r rest hw hd;simp [depthT] at hd
 | l1 k a ih =>
  intro r rest hw hd
  have hk:isKw k:=by rcases hw.1 with rfl | rfl <;> simp [isKw]
  have e:showT (.l1 k a)++rest=wordK k++60 :: (showT a++62 :: rest):=by simp [showT]
  have h1:=span_app (wordK k) (60 :: (showT a++62 :: rest)) (wordK_nm k hk) (.inr ⟨60,_,rfl,by decide⟩)
  have h2:(wordK k++60 :: (showT a++62 :: rest)).take (wordK k).length=wordK k:=List.take_left
  have h3:=kindW_word k hk
  rw [e]
  cases r with
  | zero =>
   unfold parT
   rw [h1,h2,h3,if_neg (by rcases hw.1 with rfl | rfl <;> simp),if_neg (by rcases hw.1 with rfl | rfl <;> simp)]
   rfl
  | succ r =>
   have hd0:(wordK k++60 :: (showT a++62 :: rest)).drop (wordK k).length=60 :: (showT a++62 :: rest):=by simpa using dropA (wordK k) (60 :: (showT a++62 :: rest)) 0
   have hd1:(wordK k++60 :: (showT a++62 :: rest)).drop ((wordK k).length+1)=showT a++62 :: rest:=by simpa using dropA (wordK k) (60 :: (showT a++62 :: rest)) 1
   have hi:=ih r (62 :: rest) hw.2 (by simp [depthT] at hd;omega)
   unfold parT
   rw [h1,h2,h3,if_neg (by rcases hw.1 with rfl | rfl <;> simp),if_neg (by rcases hw.1 with rfl | rfl <;> simp),hd0,if_neg (by simp),hd1]
   dsimp only
   rw [if_pos (by rw [hi];simp),hi]
   rfl
 | mp a b iha ihb =>
  intro r rest hw hd
  have hk:isKw 13:=by simp [isKw]
  have e:showT (.mp a b)++rest=wordK 13++60 :: (showT a++44 :: (showT b++62 :: rest)):=by simp [showT]
  have h1:=span_app (wordK 13) (60 :: (showT a++44 :: (showT b++62 :: rest))) (wordK_nm 13 hk) (.inr ⟨60,_,rfl,by decide⟩)
  have h2:(wordK 13++60 :: (showT a++44 :: (showT b++62 :: rest))).take (wordK 13).length=wordK 13:=List.take_left
  have h3:=kindW_word 13 hk
  rw [e]
  cases r with
  | zero =>
   unfold parT
   rw [h1,h2,h3,if_neg (by simp),if_neg (by simp)]
   rfl
  | succ r =>
   have hd0:(wordK 13++60 :: (showT a++44 :: (showT b++62 :: rest))).drop (wordK 13).length=60 :: (showT a++44 :: (showT b++62 :: rest)):=by simpa using dropA (wordK 13) (60 :: (showT a++44 :: (showT b++62 :: rest))) 0
   have hd1:(wordK 13++60 :: (showT a++44 :: (showT b++62 :: rest))).drop ((wordK 13).length+1)=showT a++44 :: (showT b++62 :: rest):=by simpa using dropA (wordK 13) (60 :: (showT a++44 :: (showT b++62 :: rest))) 1
   have hd2:(wordK 13++60 :: (showT a++44 :: (showT b++62 :: rest))).drop ((wordK 13).length+1+(showT a).length)=44 :: (showT b++62 :: rest):=by
    rw [Nat.add_assoc,dropA,Nat.add_comm 1,List.drop_succ_cons]
    simpa using dropA (showT a) (44 :: (showT b++62 :: rest)) 0
   have hd3:(wordK 13++60 :: (showT a++44 :: (showT b++62 :: rest))).drop ((wordK 13).length+1+(showT a).length+1)=showT b++62 :: rest:=by
    rw [← List.drop_drop,hd2];simp
   unfold parT
   rw [h1,h2,h3,if_neg (by simp),if_neg (by simp),hd0,if_neg (by simp),hd1]
   dsimp only
   by_cases hda:r<depthT a
   ·have hi:=iha r (44 :: (showT b++62 :: rest)) hw.1 hda
    rw [if_pos (by rw [hi];simp),hi]
    rfl
   ·have hi:=parT_full a r (44 :: (showT b++62 :: rest)) hw.1 (by omega) (.inr ⟨44,_,rfl,by decide⟩)
    have hj:=ihb r (62 :: rest) hw.2 (by simp [depthT] at hd;omega)
    rw [hi]
    dsimp only
    rw [if_neg (by simp),if_pos (rfl:(13:Nat)=13),hd2,if_neg (by simp),hd3,if_pos (by rw [hj];simp),hj]
    rfl
theorem head_take (l:List UInt8) (c:UInt8) (n:Nat) (h:(l.drop n).head? = some c):l.take (n+1)=l.take n++[c]∧n+1≤l.length:=by
 rcases Nat.lt_or_ge n l.length with hn | hn
 ·rw [List.take_succ_eq_append_getElem hn]
  rw [List.head?_drop,List.getElem?_eq_getElem hn] at h
  cases h
  exact ⟨rfl,by omega⟩
 ·rw [List.drop_eq_nil_of_le hn] at h;cases h
theorem take_seg (l:List UInt8) (n m:Nat):l.take (n+m)=l.take n++(l.drop n).take m:=List.take_add
theorem parT_sound:∀ (r:Nat) (l:List UInt8),(parT r l).1=0→wfT (parT r l).2.1∧depthT (parT r l).2.1≤r∧(parT r l).2.2≤l.length∧l.take (parT r l).2.2=showT (parT r l).2.1:=by
 intro r
 induction r with
 | zero =>
  intro l h
  have hsp:=spanN_le isNmS l
  have htk:=spanN_take isNmS l
  unfold parT at h ⊢
  generalize spanN isNmS l=N at *
  rcases kindW_is (l.take N) with h0 | ⟨h1,h2⟩
  ·rw [if_pos h0] at h ⊢
   split at h
   ·rename_i hn
    rw [if_pos hn]
    exact ⟨⟨hn,htk⟩,Nat.le_refl _,hsp,rfl⟩
   ·cases h
  ·have h0:kindW (l.take N)≠0:=by intro e;rw [e] at h1;simp [isKw] at h1
   rw [if_neg h0] at h ⊢
   split at h
   ·rename_i hn
    rw [if_pos hn]
    refine ⟨?_,Nat.le_refl _,hsp,h2⟩
    show isBs _
    unfold isBs;unfold isKw at h1;omega
   ·cases h
 | succ r ih =>
  intro l h
  have hsp:=spanN_le isNmS l
  have htk:=spanN_take isNmS l
  unfold parT at h ⊢
  generalize spanN isNmS l=N at *
  rcases kindW_is (l.take N) with h0 | ⟨h1,h2⟩
  ·rw [if_pos h0] at h ⊢
   split at h
   ·rename_i hn
    rw [if_pos hn]
    exact ⟨⟨hn,htk⟩,Nat.zero_le _,hsp,rfl⟩
   ·cases h
  ·have h0:kindW (l.take N)≠0:=by intro e;rw [e] at h1;simp [isKw] at h1
   rw [if_neg h0] at h ⊢
   split at h
   ·rename_i hn
    rw [if_pos hn]
    refine ⟨?_,Nat.zero_le _,hsp,h2⟩
    show isBs _
    unfold isBs;unfold isKw at h1;omega
   ·rename_i hn
    rw [if_neg hn]
    split at h
    ·cases h
    ·rename_i h60
     rw [if_neg h60]
     have e60:=head_take l 60 N (by simpa using h60)
     have hA:=ih (l.drop (N+1))
     dsimp only at h ⊢
     generalize parT r (l.drop (N+1))=p at *
     obtain ⟨pe,pt,pn⟩:=p
     dsimp only at h hA ⊢
     by_cases hpe:pe≠0
     ·rw [if_pos hpe] at h;exact absurd h hpe
     ·rw [if_neg hpe] at h ⊢
      have hA':=hA (by simpa using hpe)
      have hlen:pn≤l.length - (N+1):=by simpa using hA'.2.2.1
      have tk1:l.take (N+1+pn)=l.take N++60 :: showT pt:=by rw [take_seg,hA'.2.2.2,e60.1];simp
      by_cases h13:kindW (l.take N)=13
      ·rw [if_pos h13] at h ⊢
       split at h
       ·cases h
       ·rename_i h44
        rw [if_neg h44]
        have e44:=head_take l 44 (N+1+pn) (by simpa using h44)
        have hB:=ih (l.drop (N+1+pn+1))
        generalize parT r (l.drop (N+1+pn+1))=q at *
        obtain ⟨qe,qt,qn⟩:=q
        dsimp only at h hB ⊢
        by_cases hqe:qe≠0
        ·rw [if_pos hqe] at h;exact absurd h hqe
        ·rw [if_neg hqe] at h ⊢
         have hB':=hB (by simpa using hqe)
         have hlen2:qn≤l.length - (N+1+pn+1):=by simpa using hB'.2.2.1
         split at h
         ·cases h
         ·rename_i h62
          rw [if_neg h62]
          have e62:=head_take l 62 (N+1+pn+1+qn) (by simpa using h62)
          have tk2:l.take (N+1+pn+1+qn)=l.take N++60 :: (showT pt++44 :: showT qt):=by rw [take_seg,hB'.2.2.2,e44.1,tk1];simp
          refine ⟨⟨hA'.1,hB'.1⟩,?_,e62.2,?_⟩
          ·show max _ _+1≤_
           have:=hA'.2.1
           have:=hB'.2.1
           omega
          ·dsimp only
           rw [e62.1,tk2,h2,h13]
           simp [showT]
      ·rw [if_neg h13] at h ⊢
       split at h
       ·cases h
       ·rename_i h62
        rw [if_neg h62]
        have e62:=head_take l 62 (N+1+pn) (by simpa using h62)
        refine ⟨⟨by unfold isKw at h1;omega,hA'.1⟩,?_,e62.2,?_⟩
        ·show _+1≤_
         have:=hA'.2.1
         omega
        ·dsimp only
         rw [e62.1,tk1]
         show _=wordK _++_
         rw [← h2]
         simp
def wholeT (l:List UInt8):Nat×Ty :=
 if (parT 12 l).1≠0 then ((parT 12 l).1,.bs 0) else if (parT 12 l).2.2<l.length then (2,.bs 0) else (0,(parT 12 l).2.1)
theorem wholeT_show (l:List UInt8) (h:(wholeT l).1=0):wfT (wholeT l).2∧depthT (wholeT l).2≤12∧l=showT (wholeT l).2:=by
 have hs:=parT_sound 12 l
 unfold wholeT at h ⊢
 split at h
 ·rename_i h1;exact absurd h h1
 ·rename_i h1
  rw [if_neg h1]
  have hs':=hs (by simpa using h1)
  split at h
  ·cases h
  ·rename_i h2
   rw [if_neg h2]
   refine ⟨hs'.1,hs'.2.1,?_⟩
   rw [← hs'.2.2.2,List.take_of_length_le (by omega)]
theorem wholeT_full (t:Ty) (hw:wfT t) (hd:depthT t≤12):wholeT (showT t)=(0,t):=by
 have h:=parT_full t 12 [] hw hd (.inl rfl)
 rw [List.append_nil] at h
 unfold wholeT
 rw [h,if_neg (by simp),if_neg (by simp)]
theorem wholeT_deep (t:Ty) (hw:wfT t) (hd:12<depthT t):wholeT (showT t)=(6,.bs 0):=by
 have h:=parT_deep t 12 [] hw hd
 rw [List.append_nil] at h
 unfold wholeT
 rw [h,if_pos (by simp)]
end Go.Proofs.YtbblfkdmkpkmcaaGreatDoor
namespace Go.Proofs.YtbblfkdmkpkmcaaGreatDoor
inductive Con where
 | mk (k:Nat) (n:Int) (d:Nat) (s:List UInt8) (l:List Con)
def con0:Con:=.mk 0 0 0 [] []
structure Fld where
 hasID:Bool
 id:Int
 req:Nat
 ty:List UInt8
 nm:List UInt8
 hasIn:Bool
 ini:Con
structure Mem where
 nm:List UInt8
 has:Bool
 n:Int
structure Met where
 nm:List UInt8
 one:Bool
 ret:List UInt8
 args:List Fld
 thr:List Fld
structure Dfn where
 k:Nat
 nm:List UInt8
 ty:List UInt8
 ini:Con
 fields:List Fld
 mems:List Mem
 ext:List UInt8
 mets:List Met
def dfn0:Dfn:=⟨0,[],[],con0,[],[],[],[]⟩
structure Spc where
 scope:List UInt8
 nm:List UInt8
structure Fil where
 incs:List (List UInt8)
 spaces:List Spc
 defs:List Dfn
def fil0:Fil:=⟨[],[],[]⟩
structure PSt where
 i:Nat
 e:Nat
def resB:List (List UInt8):=[[105,110,99,108,117,100,101],[110,97,109,101,115,112,97,99,101],[116,121,112,101,100,101,102],[101,110,117,109],[99,111,110,115,116],[115,116,114,117,99,116],[117,110,105,111,110],[101,120,99,101,112,116,105,111,110],[115,101,114,118,105,99,101],[101,120,116,101,110,100,115],[116,104,114,111,119,115],[111,110,101,119,97,121],[118,111,105,100],[114,101,113,117,105,114,101,100],[111,112,116,105,111,110,97,108],[116,114,117,101],[102,97,108,115,101]]
def oftB:List (List UInt8):=[[98,111,111,108],[105,56],[105,49,54],[105,51,50],[105,54,52],[100,111,117,98,108,101],[115,116,114,105,110,103],[98,105,110,97,114,121],[108,105,115,116],[115,101,116],[109,97,112],[98,121,116,101]]
def kInclude:List UInt8:=[105,110,99,108,117,100,101]
def kNamespace:List UInt8:=[110,97,109,101,115,112,97,99,101]
def kExtends:List UInt8:=[101,120,116,101,110,100,115]
def kThrows:List UInt8:=[116,104,114,111,119,115]
def kOneway:List UInt8:=[111,110,101,119,97,121]
def kVoid:List UInt8:=[118,111,105,100]
def kRequired:List UInt8:=[114,101,113,117,105,114,101,100]
def kOptional:List UInt8:=[111,112,116,105,111,110,97,108]
def kTrue:List UInt8:=[116,114,117,101]
def kFalse:List UInt8:=[102,97,108,115,101]
def kList:List UInt8:=[108,105,115,116]
def kSet:List UInt8:=[115,101,116]
def kMap:List UInt8:=[109,97,112]
def kByte:List UInt8:=[98,121,116,101]
def defK (t:List UInt8):Nat :=
 if t=[116,121,112,101,100,101,102] then 1 else if t=[99,111,110,115,116] then 3 else if t=[101,110,117,109] then 2 else if t=[115,116,114,117,99,116] then 4
 else if t=[117,110,105,111,110] then 5 else if t=[101,120,99,101,112,116,105,111,110] then 6 else if t=[115,101,114,118,105,99,101] then 7 else 0
def oftP (t:List UInt8):Bool:=oftB.contains t
def resP (t:List UInt8):Bool:=resB.contains t || oftP t
def nmLet (c:UInt8):Bool:=isLetS c || decide (c.toNat=95)
def plainP (t:List UInt8):Bool:=decide (t.length≤40) && !t.contains 46 && !resP t && (match t with | []=>false | c :: r=>nmLet c && (c :: r).all isNmS)
def splitP:List UInt8→List (List UInt8)
 | []=>[[]]
 | c :: r=>if c=46 then [] :: splitP r else match splitP r with
  | []=>[[c]]
  | a :: b=>(c :: a) :: b
def qualP (t:List UInt8):Bool:=decide ((splitP t).length≤3) && (splitP t).all plainP
section
variable (ws:List TokV)
def wordP (s:PSt):TokV:=if s.e≠0 then tok0 else ws.getD s.i tok0
def nextP (s:PSt):PSt:=if s.e≠0 then s else ⟨s.i+1,s.e⟩
def failP (e:Nat) (s:PSt):PSt:=if s.e≠0 then s else ⟨s.i,e⟩
def isP (t:List UInt8) (s:PSt):Bool:=(decide ((wordP ws s).k=1) || decide ((wordP ws s).k=5)) && decide ((wordP ws s).t=t)
def takeP (t:List UInt8) (s:PSt):PSt:=if isP ws t s then nextP s else s
def needP (t:List UInt8) (s:PSt):PSt:=if isP ws t s then nextP s else failP 2 s
def atNameP (s:PSt):Bool:=decide ((wordP ws s).k=1)
def atPlainP (s:PSt):Bool:=atNameP ws s && plainP (wordP ws s).t
def atQualP (s:PSt):Bool:=atNameP ws s && qualP (wordP ws s).t
def plainN (s:PSt):List UInt8×PSt:=let s1:=if atPlainP ws s then s else failP 2 s;((wordP ws s1).t,nextP s1)
def qualN (s:PSt):List UInt8×PSt:=let s1:=if atQualP ws s then s else failP 2 s;((wordP ws s1).t,nextP s1)
def addP {α:Type} (most:Nat) (read:PSt→α×PSt) (acc:List α) (s:PSt):List α×PSt :=
 if acc.length=most then (acc,failP 4 s) else (acc++[(read s).1],(read s).2)
def sepP (s:PSt):PSt:=if isP ws [44] s then nextP s else takeP ws [59] s
def elemsP {α:Type} (p:PSt→Bool) (most:Nat) (read:PSt→α×PSt):Nat→List α→PSt→List α×PSt
 | 0,acc,s=>(acc,s)
 | f+1,acc,s=>if p s then elemsP p most read f (addP most read acc s).1 (sepP ws (addP most read acc s).2) else (acc,s)
def atTypeP (s:PSt):Bool:=atNameP ws s && (oftP (wordP ws s).t || qualP (wordP ws s).t)
def leafP (s:PSt):List UInt8×PSt :=
 if isP ws kByte s then ([105,56],nextP s) else if atTypeP ws s then ((wordP ws s).t,nextP s) else ([],failP 2 s)
def typeP:Nat→PSt→List UInt8×PSt
 | 0=>fun s=>if isP ws kList s || isP ws kSet s || isP ws kMap s then ([],failP 6 s) else leafP ws s
 | r+1=>fun s =>
  if isP ws kList s then
   (let a:=typeP r (needP ws [60] (nextP s));(kList++60 :: a.1++[62],needP ws [62] a.2))
  else if isP ws kSet s then
   (let a:=typeP r (needP ws [60] (nextP s));(kSet++60 :: a.1++[62],needP ws [62] a.2))
  else if isP ws kMap s then
   (let a:=typeP r (needP ws [60] (nextP s));let b:=typeP r (needP ws [44] a.2);(kMap++60 :: a.1++44 :: b.1++[62],needP ws [62] b.2))
  else leafP ws s
def atConP (s:PSt):Bool :=
 let w:=wordP ws s
 if w.k=2∨w.k=3∨w.k=4 then true else if w.k=1 then isP ws kTrue s || isP ws kFalse s || qualP w.t else isP ws [91] s || isP ws [123] s
def conV (w:TokV):Con:=if w.k=2 then .mk 1 w.n 0 [] [] else if w.k=3 then .mk 2 0 w.d [] [] else if w.k=4 then .mk 3 0 0 w.t [] else .mk 4 0 0 w.t []
def pairP (item:PSt→Con×PSt) (s:PSt):(Con×Con)×PSt :=
 let a:=item s;let b:=item (needP ws [58] a.2);((a.1,b.1),b.2)
def flatP (l:List (Con×Con)):List Con:=l.flatMap fun p=>[p.1,p.2]
def conP:Nat→PSt→Con×PSt
 | 0=>fun s=>if !atConP ws s then (con0,failP 2 s) else if (wordP ws s).k=2∨(wordP ws s).k=3∨(wordP ws s).k=4∨(wordP ws s).k=1 then (conV (wordP ws s),nextP s) else (con0,failP 6 s)
 | r+1=>fun s=>if !atConP ws s then (con0,failP 2 s) else if (wordP ws s).k=2∨(wordP ws s).k=3∨(wordP ws s).k=4∨(wordP ws s).k=1 then (conV (wordP ws s),nextP s)
  else if isP ws [91] s then (let a:=elemsP ws (atConP ws) 40 (conP r) (ws.length+1) [] (nextP s);(.mk 5 0 0 [] a.1,needP ws [93] a.2))
  else (let a:=elemsP ws (atConP ws) 40 (pairP ws (conP r)) (ws.length+1) [] (needP ws [123] s);(.mk 6 0 0 [] (flatP a.1),needP ws [125] a.2))
def atFieldP (s:PSt):Bool:=decide ((wordP ws s).k=2) || isP ws kRequired s || isP ws kOptional s || atTypeP ws s
def reqP (s:PSt):Nat:=if isP ws kRequired s then 1 else if isP ws kOptional s then 2 else 0
def reqN (s:PSt):PSt:=if isP ws kRequired s then nextP s else takeP ws kOptional s
def fieldP (s:PSt):Fld×PSt :=
 let h:=decide ((wordP ws s).k=2)
 let s1:=if h then needP ws [58] (nextP s) else s
 let t:=typeP ws 12 (reqN ws s1)
 let n:=plainN ws t.2
 let c:=if isP ws [61] n.2 then conP ws 12 (nextP n.2) else (con0,n.2)
 (⟨h,if h then (wordP ws s).n else 0,reqP ws s1,t.1,n.1,isP ws [61] n.2,c.1⟩,c.2)
def fieldsP (o c:UInt8) (s:PSt):List Fld×PSt :=
 let l:=elemsP ws (atFieldP ws) 30 (fieldP ws) (ws.length+1) [] (needP ws [o] s)
 (l.1,needP ws [c] l.2)
def memP (s:PSt):Mem×PSt :=
 let n:=plainN ws s
 if isP ws [61] n.2 then
  (let s1:=nextP n.2;let s2:=if (wordP ws s1).k=2 then s1 else failP 2 s1;(⟨n.1,true,(wordP ws s2).n⟩,nextP s2))
 else (⟨n.1,false,0⟩,n.2)
def atMetP (s:PSt):Bool:=isP ws kOneway s || isP ws kVoid s || atTypeP ws s
def metP (s:PSt):Met×PSt :=
 let s1:=takeP ws kOneway s
 let r:=if isP ws kVoid s1 then ((wordP ws s1).t,nextP s1) else typeP ws 12 s1
 let n:=plainN ws r.2
 let a:=fieldsP ws 40 41 n.2
 let t:=if isP ws kThrows a.2 then fieldsP ws 40 41 (nextP a.2) else ([],a.2)
 (⟨n.1,isP ws kOneway s,r.1,a.1,t.1⟩,t.2)
def atDefP (s:PSt):Bool:=atNameP ws s && decide (defK (wordP ws s).t≠0)
def bodyP (k:Nat) (nm ty:List UInt8) (s:PSt):Dfn×PSt :=
  if k=3 then (let c:=conP ws 12 (needP ws [61] s);(⟨k,nm,ty,c.1,[],[],[],[]⟩,c.2))
  else if k=2 then (let l:=elemsP ws (atPlainP ws) 30 (memP ws) (ws.length+1) [] (needP ws [123] s);(⟨k,nm,ty,con0,[],l.1,[],[]⟩,needP ws [125] l.2))
  else if k=4∨k=5∨k=6 then (let l:=fieldsP ws 123 125 s;(⟨k,nm,ty,con0,l.1,[],[],[]⟩,l.2))
  else if k=7 then
    (let x:=if isP ws kExtends s then qualN ws (nextP s) else ([],s)
     let l:=elemsP ws (atMetP ws) 30 (metP ws) (ws.length+1) [] (needP ws [123] x.2)
     (⟨k,nm,ty,con0,[],[],x.1,l.1⟩,needP ws [125] l.2))
  else (⟨k,nm,ty,con0,[],[],[],[]⟩,s)
def defP (s:PSt):Dfn×PSt :=
 let k:=defK (wordP ws s).t
 let s1:=nextP s
 let t:=if k=1∨k=3 then typeP ws 12 s1 else ([],s1)
 let n:=plainN ws t.2
 bodyP ws k n.1 t.1 n.2
def incP (s:PSt):List UInt8×PSt :=
 let s1:=nextP s
 if (wordP ws s1).k=4 && plainP (wordP ws s1).t then ((wordP ws s1).t,nextP s1) else ([],failP 2 s1)
def spcP (s:PSt):Spc×PSt :=
 let s1:=nextP s
 let a:=if isP ws [42] s1 then ((wordP ws s1).t,nextP s1) else qualN ws s1
 let b:=qualN ws a.2
 (⟨a.1,b.1⟩,b.2)
def headsP:Nat→List (List UInt8)→List Spc→PSt→(List (List UInt8)×List Spc)×PSt
 | 0,a,b,s=>((a,b),s)
 | f+1,a,b,s =>
  if isP ws kInclude s then headsP f (addP 5 (incP ws) a s).1 b (addP 5 (incP ws) a s).2
  else if isP ws kNamespace s then headsP f a (addP 5 (spcP ws) b s).1 (addP 5 (spcP ws) b s).2
  else ((a,b),s)
def fileP (s:PSt):Fil×PSt :=
 let h:=headsP ws (ws.length+1) [] [] s
 let d:=elemsP ws (atDefP ws) 30 (defP ws) (ws.length+1) [] h.2
 (⟨h.1.1,h.1.2,d.1⟩,if (wordP ws d.2).k=6 then d.2 else failP 2 d.2)
end
def parseF (l:List UInt8):Fil×Nat×Nat :=
 if (lexS l).2.1≠0 then (fil0,(lexS l).2.1,(lexS l).2.2)
 else
  let r:=fileP (lexS l).1 ⟨0,0⟩
  if r.2.e≠0 then (fil0,r.2.e,((lexS l).1.getD r.2.i tok0).p) else (r.1,0,0)
end Go.Proofs.YtbblfkdmkpkmcaaGreatDoor
namespace Go.Proofs.YtbblfkdmkpkmcaaGreatDoor
open Go.RowKit
section rows
variable {α:Type} {f:α→Value} {e:TypeId} {w w':World} {B:Nat} {v:Value} {xs ys:List α}
def OwnG (f:α→Value) (w:World) (B:Nat) (v:Value) (xs:List α):Prop :=
 (v = .slice none 0 0∧xs=[]) ∨
 ∃ g off cap,v = .slice (some ⟨g,off,none⟩) xs.length cap∧B≤g∧g<w.heap.size∧xs.length≤cap∧cap≤maxLen ∧
  (∀ j,j<cap→(w.cell? ⟨g,off+j,none⟩).isSome=true∧w.frozen? ⟨g,off+j,none⟩=false) ∧
  ∀ j (h:j<xs.length),w.cell? ⟨g,off+j,none⟩=some (f xs[j])
theorem Own.gen (h:Own f e w B v xs):OwnG f w B v xs:=by
 have h':=h
 obtain ⟨h1,h2⟩:=h
 rcases h2 with ⟨rfl,h0⟩ | ⟨g,cap,cur,rfl,hg,hh,hn,hm,hs,ht⟩
 ·exact .inl ⟨rfl,List.eq_nil_of_length_eq_zero h0⟩
 ·have hlt:g<w.heap.size:=by
   rcases Nat.lt_or_ge g w.heap.size with h | h
   ·exact h
   ·rw [Array.getElem?_eq_none h] at hh;cases hh
  refine .inr ⟨g,0,cap,rfl,hg,hlt,hn,hm,fun j hj=>⟨?_,?_⟩,fun j hj=>?_⟩
  ·rw [Nat.zero_add,cell_of_row w g j cur e (0,0) hh]
   have:j<cur.size:=by omega
   simp [this]
  ·simp [World.frozen?,hh]
  ·have hj':(xs.map f)[j]? = some (f xs[j]):=by simp [hj]
   have hcj:cur[j]? = some (f xs[j]):=by
    rw [← ht,List.getElem?_take] at hj'
    split at hj'
    ·simpa using hj'
    ·cases hj'
   rw [Nat.zero_add,cell_of_row w g j cur e (0,0) hh]
   exact hcj
theorem OwnG.sl (h:OwnG f w B v xs):∃ A c,v = .slice A xs.length c∧xs.length≤c∧c≤maxLen∧Rd f w A xs:=by
 rcases h with ⟨rfl,rfl⟩ | ⟨g,off,cap,rfl,hB,hg,hn,hm,hs,hc⟩
 ·exact ⟨none,0,rfl,Nat.le_refl _,Nat.zero_le _,Rd.nil⟩
 ·exact ⟨_,cap,rfl,hn,hm,fun _=>⟨g,off,rfl,hg,hc⟩⟩
theorem OwnG.below (h:OwnG f w B v xs) (hb:Below w.heap.size w w'):OwnG f w' B v xs:=by
 rcases h with h | ⟨g,off,cap,rfl,hB,hg,hn,hm,hs,hc⟩
 ·exact .inl h
 ·refine .inr ⟨g,off,cap,rfl,hB,Nat.lt_of_lt_of_le hg hb.size,hn,hm,fun j hj=>?_,fun j hj=>?_⟩
  ·rw [hb.cell (p:=⟨g,off+j,none⟩) hg,hb.frozen (p:=⟨g,off+j,none⟩) hg];exact hs j hj
  ·rw [hb.cell (p:=⟨g,off+j,none⟩) hg];exact hc j hj
theorem OwnG.less {B':Nat} (h:OwnG f w B v xs) (hB:B'≤B):OwnG f w B' v xs:=by
 rcases h with h | ⟨g,off,cap,hv,hB',r⟩
 ·exact .inl h
 ·exact .inr ⟨g,off,cap,hv,Nat.le_trans hB hB',r⟩
theorem OwnG.name (h:OwnG f w B v xs) (n:Nat) (hn:xs.length=n):∃ A c ys,v = .slice A ys.length c∧Hid (ys=xs)∧ys.length≤n∧n≤ys.length∧ys.length≤c∧c≤maxLen∧Rd f w A ys∧OwnG f w B (.slice A ys.length c) ys:=by
 obtain ⟨A,c,rfl,h1,h2,h3⟩:=h.sl
 exact ⟨A,c,xs,rfl,rfl,by omega,by omega,h1,h2,h3,h⟩
theorem OwnG.drew (h:OwnG f w B v xs):OwnG f w.drew B v xs:=h
theorem OwnG.cast {xs':List α} (h:OwnG f w B v xs) (he:xs=xs'):OwnG f w B v xs':=he ▸ h
theorem OwnG.cut {A:Option Addr} {c:Nat} (h:OwnG f w B (.slice A xs.length c) xs) {l h':Nat} (hl:l≤h') (hh:h'≤xs.length) :
  ∃ A' c',Go.sliced A l h' c 1 = .slice A' ((xs.take h').drop l).length c'∧OwnG f w B (.slice A' ((xs.take h').drop l).length c') ((xs.take h').drop l):=by
 have e0:((xs.take h').drop l).length=h' - l:=by simp [List.length_drop,List.length_take];omega
 rcases h with ⟨h1,rfl⟩ | ⟨g,off,cap,h1,hB,hg,hn,hm,hs,hc⟩
 ·cases h1
  obtain rfl:h'=0:=by simpa using hh
  obtain rfl:l=0:=by omega
  exact ⟨none,0,by simp [Go.sliced],.inl ⟨rfl,rfl⟩⟩
 ·cases h1
  by_cases hcl:c=l
  ·have hz:(xs.take h').drop l=[]:=by
    apply List.eq_nil_of_length_eq_zero;omega
   refine ⟨some ⟨g,off,none⟩,0,by simp [Go.sliced,e0,hcl],.inr ⟨g,off,0,by simp,hB,hg,by simp [hz],by simp [maxLen],fun j hj=>by omega,fun j hj=>by simp [hz] at hj⟩⟩
  ·refine ⟨some ⟨g,off+l,none⟩,c - l,?_,.inr ⟨g,off+l,c - l,rfl,hB,hg,by omega,by omega,fun j hj=>?_,fun j hj=>?_⟩⟩
   ·simp [Go.sliced,e0,hcl,Addr.add]
   ·rw [Nat.add_assoc];exact hs (l+j) (by omega)
   ·rw [List.getElem_drop,List.getElem_take,Nat.add_assoc]
    exact hc (l+j) (by omega)
theorem OwnG.set_ {g off cap:Nat} {i:Nat} {y:α} (h:OwnG f w B (.slice (some ⟨g,off,none⟩) xs.length cap) xs) (hi:i<xs.length) :
  OwnG f (w.setCell ⟨g,off+i,none⟩ (f y)) B (.slice (some ⟨g,off,none⟩) (xs.set i y).length cap) (xs.set i y):=by
 rcases h with ⟨h1,_⟩ | ⟨g',off',cap',h1,hB,hg,hn,hm,hs,hc⟩
 ·cases h1
 ·cases h1
  refine .inr ⟨g,off,cap,rfl,hB,by simpa [World.setCell] using hg,by simpa using hn,hm,fun j hj=>⟨?_,?_⟩,fun j hj=>?_⟩
  ·by_cases hij:j=i
   ·subst hij
    obtain ⟨u,hu⟩:=Option.isSome_iff_exists.1 (hs j hj).1
    rw [World.cell?_setCell_same w _ _ hu];rfl
   ·rw [World.cell?_setCell_other _ _ _ _ (by simp only [ne_eq,Addr.mk.injEq];omega)];exact (hs j hj).1
  ·rw [World.frozen?_setCell];exact (hs j hj).2
  ·rw [List.length_set] at hj
   by_cases hij:j=i
   ·subst hij
    rw [World.cell?_setCell_same w _ _ (hc j hi)]
    simp
   ·rw [World.cell?_setCell_other _ _ _ _ (by simp only [ne_eq,Addr.mk.injEq];omega),hc j hj]
    rw [List.getElem_set_ne (by omega)]
end rows
section laws
variable {α:Type} {f:α→Value} {P:Program} (w:World) {ops:Array Oper} {rest:List Oper} {o:Oper} {a:Act} {Q:Exit→Act→World→Prop}
theorem wpList_mkz {t e:TypeId} {by_:Nat} (T:ElT P t e by_) (z0:α) (hz0:∀ i,P.info? e=some i→i.zero=some (f z0)) (hzc:(f z0).cells=#[f z0]) (hgd:o.guard=none) (l c:Operand) (hop:o.op=Op.makeSlice t l c)
  (B:Nat) (kl kc:IntKind) (N:Int) (hl:a.eval l = .int kl N) (hc:a.eval c = .int kc N) (h0:0≤N) (hby:by_ * N≤281474976710656) (hm:N≤281474976710656) (hB:B≤w.heap.size)
  (h:∀ v' w' (zs:List α),OwnG f w' B v' zs→Hid (zs=List.replicate N.toNat z0)→zs.length≤N.toNat→N.toNat≤zs.length→Below B w w'→wpList P ops Q rest (a.put o.dst v') w'):wpList P ops Q (o :: rest) a w:=by
 obtain ⟨i,z,hi,hz,h1,h2,h3⟩:=T.inf
 obtain rfl:z=f z0:=by have:=hz0 i hi;rw [hz] at this;injection this
 refine wpList_plain hgd fun K hK=>?_
 have hrun:=run_make (P:=P) w t e i (f z0) T.ht hi hz kl kc N N h0 (Int.le_refl _) (by rw [h2];exact hby) (by omega)
 rw [h1,Nat.mul_one] at hrun
 have hmc:(madeCells (f z0).cells N.toNat).toList=List.replicate N.toNat (f z0):=by
  rw [hzc]
  apply List.ext_getElem
  ·simp [madeCells]
  ·intro j h1 h2
   simp [madeCells,Nat.mod_one]
 have hsz:(madeCells (f z0).cells N.toNat).size=N.toNat:=by rw [← Array.length_toList,hmc];simp
 have hown:OwnG f (w.alloc (.cells (madeCells (f z0).cells N.toNat) e)) B (.slice (some ⟨w.heap.size,0,none⟩) (List.replicate N.toNat z0).length N.toNat) (List.replicate N.toNat z0) :=
  Own.gen (e:=e) ⟨by simp,.inr ⟨w.heap.size,N.toNat,_,rfl,hB,heap_alloc_new w _,by simp,by simp only [maxLen];omega,by omega,by rw [hmc];simp⟩⟩
 have:=hK _ _ (h _ _ _ hown rfl (by simp) (by simp) ((Below.refl B w).alloc hB _))
 unfold Oper.wp execOp
 simp only [hop,Sem.run_bind,Sem.run_pure,Result.andThen_ok,hl,hc,hrun]
 simp only [List.length_replicate] at this
 exact this
end laws
end Go.Proofs.YtbblfkdmkpkmcaaGreatDoor
