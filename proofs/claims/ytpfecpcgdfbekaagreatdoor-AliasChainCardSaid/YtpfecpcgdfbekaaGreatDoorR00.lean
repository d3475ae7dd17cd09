/- Base KinP KinQ Oth KinAp Reg RegL KinSp Bytes KinFp KinBp KinR KinCp KinDp KinEp KinGp KinHp KinIp -/
import Derived.Test.YtpfecpcgdfbekaaGreatDoorG00
import Derived.WalkKit
import Derived.Lib.Hide
import Derived.Lib.ConvBytes
import Derived.Lib.AppendStr
import Derived.Maps.AppendAt
import Derived.Laws.BytesArg
import Derived.Deep.Draws
import Derived.OwnWalk
import Derived.Lib.SlBytesConst
import Derived.Test.YtpfecpcgdfbekaaGreatDoorG08
import Derived.Lib.IndexMore
import Derived.Test.YtpfecpcgdfbekaaGreatDoorG01
import Derived.Test.YtpfecpcgdfbekaaGreatDoorProg
import Derived.Lib.SmallJoins
import Derived.Laws.Rows
import Derived.Laws.ResultCell
import Derived.IntWalk
import Derived.Test.YtpfecpcgdfbekaaGreatDoorG09
import Derived.DeepKeys4
import Derived.Maps.Keyed
import Derived.Maps.Own
import Derived.Test.YtpfecpcgdfbekaaGreatDoorG02
import Derived.StillTailTactics
set_option linter.unusedVariables false
set_option linter.unusedSimpArgs false
set_option linter.unnecessarySimpa false
set_option linter.unusedSectionVars false
namespace Go.Proofs.YtpfecpcgdfbekaaGreatDoor
open Go.RowKit
section rows
variable {α:Type} {f:α→Value} {e:TypeId} {w w':World} {B B':Nat} {v:Value} {A:Option Addr} {xs ys:List α}
end rows
section laws
variable {α:Type} {f:α→Value} {P:Program} (w:World) {ops:Array Oper} {rest:List Oper} {o:Oper} {a:Act} {Q:Exit→Act→World→Prop}
theorem conv_str {A:Option Addr} {xs:List UInt8} (src dst e:TypeId) (hs:P.underlying src=some (.slice e)) (he:P.underlying e=some (.int .u8)) (hd:P.underlying dst=some .string)
  (hr:Rd bv w A xs) (c:Nat):(convert src dst (.slice A xs.length c)).run P w = .ok (.string ⟨xs.toArray⟩) w:=by
 rcases A with _ | a
 ·have h0:xs=[]:=by
   rcases Nat.eq_zero_or_pos xs.length with h | h
   ·exact List.eq_nil_of_length_eq_zero h
   ·obtain ⟨_,_,h,_⟩:=hr h;cases h
  subst h0
  exact run_convert_bytes_nil w src e hs he _ _ dst hd
 ·by_cases h0:xs.length=0
  ·have:xs=[]:=List.eq_nil_of_length_eq_zero h0
   subst this
   rw [run_convert_bytes_string w src dst e _ _ c hs he hd]
   simp [Conv.bytesToString,loadCells,loadCellsFrom]
   rfl
  ·obtain ⟨b,off,hA,hb,hc⟩:=hr (by omega)
   injection hA with hA
   subst hA
   have:=run_convert_bytes_arg w src e hs he b off xs.length c (xs.map fun u=>(u.toNat:Int)) (by simp) (fun i hi=>by
    rw [hc i hi];simp [List.getD,hi,bv]) dst hd
   rw [this]
   congr 2
   simp [strOfNums,Function.comp_def]
theorem wpList_str {src dst e:TypeId} (hgd:o.guard=none) (x:Operand) (ho:o.op = .convert src dst x) (hs:P.underlying src=some (.slice e)) (he:P.underlying e=some (.int .u8)) (hd:P.underlying dst=some .string)
  (A:Option Addr) (xs:List UInt8) (c:Nat) (hx:a.eval x = .slice A xs.length c) (hr:Rd bv w A xs)
  (h:∀ s:ByteArray,Hid (s=⟨xs.toArray⟩)→s.size≤xs.length→xs.length≤s.size→wpList P ops Q rest (a.put o.dst (.string s)) w):wpList P ops Q (o :: rest) a w:=by
 refine wpList_plain hgd fun K hK=>?_
 have hrun:=conv_str (P:=P) w src dst e hs he hd hr c
 have:=hK _ _ (h ⟨xs.toArray⟩ rfl (by simp [ByteArray.size]) (by simp [ByteArray.size]))
 unfold Oper.wp execOp
 simp only [ho,Sem.run_bind,Sem.run_pure,Result.andThen_ok,hx,hrun]
 exact this
end laws
end Go.Proofs.YtpfecpcgdfbekaaGreatDoor
namespace Go.Proofs.YtpfecpcgdfbekaaGreatDoor
def depthT:Ty→Nat
 | .nm _=>0
 | .bs _=>0
 | .l1 _ a=>depthT a+1
 | .mp a b=>max (depthT a) (depthT b)+1
def headT:Ty→Nat×List UInt8×List UInt8×List UInt8
 | .nm s=>(0,s,[],[])
 | .bs k=>(k,[],[],[])
 | .l1 k a=>(k,[],showT a,[])
 | .mp a b=>(13,[],showT a,showT b)
def noTy (e:Nat):Nat×Ty×Nat:=(e,.bs 0,0)
def parT:Nat→List UInt8→Nat×Ty×Nat
 | 0,l =>
  if kindW (l.take (spanN isNmS l))=0 then (if nameOk (l.take (spanN isNmS l)) then (0,.nm (l.take (spanN isNmS l)),spanN isNmS l) else noTy 2)
  else if kindW (l.take (spanN isNmS l))≠13∧kindW (l.take (spanN isNmS l))≠14∧kindW (l.take (spanN isNmS l))≠15 then (0,.bs (kindW (l.take (spanN isNmS l))),spanN isNmS l)
  else noTy 6
 | r+1,l =>
  if kindW (l.take (spanN isNmS l))=0 then (if nameOk (l.take (spanN isNmS l)) then (0,.nm (l.take (spanN isNmS l)),spanN isNmS l) else noTy 2)
  else if kindW (l.take (spanN isNmS l))≠13∧kindW (l.take (spanN isNmS l))≠14∧kindW (l.take (spanN isNmS l))≠15 then (0,.bs (kindW (l.take (spanN isNmS l))),spanN isNmS l)
  else if (l.drop (spanN isNmS l)).head?≠some 60 then noTy 2
  else
   let p:=parT r (l.drop (spanN isNmS l+1))
   if p.1≠0 then noTy p.1
   else if kindW (l.take (spanN isNmS l))=13 then
    if (l.drop (spanN isNmS l+1+p.2.2)).head?≠some 44 then noTy 2
    else
     let q:=parT r (l.drop (spanN isNmS l+1+p.2.2+1))
     if q.1≠0 then noTy q.1
     else if (l.drop (spanN isNmS l+1+p.2.2+1+q.2.2)).head?≠some 62 then noTy 2
     else (0,.mp p.2.1 q.2.1,spanN isNmS l+1+p.2.2+1+q.2.2+1)
   else if (l.drop (spanN isNmS l+1+p.2.2)).head?≠some 62 then noTy 2
   else (0,.l1 (kindW (l.take (spanN isNmS l))) p.2.1,spanN isNmS l+1+p.2.2+1)
theorem head_take (l:List UInt8) (c:UInt8) (n:Nat) (h:(l.drop n).head? = some c):l.take (n+1)=l.take n++[c]∧n+1≤l.length:=by
 rcases Nat.lt_or_ge n l.length with hn | hn
 ·rw [List.take_succ_eq_append_getElem hn]
  rw [List.head?_drop,List.getElem?_eq_getElem hn] at h
  cases h
  exact ⟨rfl,by omega⟩
 ·rw [List.drop_eq_nil_of_le hn] at h;cases h
theorem take_seg (l:List UInt8) (n m:Nat):l.take (n+m)=l.take n++(l.drop n).take m:=List.take_add
theorem parT_sound:∀ (r:Nat) (l:List UInt8),(parT r l).1=0→wfT (parT r l).2.1∧depthT (parT r l).2.1≤r∧(parT r l).2.2≤l.length∧l.take (parT r l).2.2=showT (parT r l).2.1:=by
 intro r
 induction r with
 | zero =>
  intro l h
  have hsp:=spanN_le isNmS l
  have htk:=spanN_take isNmS l
  unfold parT at h ⊢
  generalize spanN isNmS l=N at *
  rcases kindW_is (l.take N) with h0 | ⟨h1,h2⟩
  ·rw [if_pos h0] at h ⊢
   split at h
   ·rename_i hn
    rw [if_pos hn]
    exact ⟨⟨hn,htk⟩,Nat.le_refl _,hsp,rfl⟩
   ·cases h
  ·have h0:kindW (l.take N)≠0:=by intro e;rw [e] at h1;simp [isKw] at h1
   rw [if_neg h0] at h ⊢
   split at h
   ·rename_i hn
    rw [if_pos hn]
    refine ⟨?_,Nat.le_refl _,hsp,h2⟩
    show isBs _
    unfold isBs;unfold isKw at h1;omega
   ·cases h
 | succ r ih =>
  intro l h
  have hsp:=spanN_le isNmS l
  have htk:=spanN_take isNmS l
  unfold parT at h ⊢
  generalize spanN isNmS l=N at *
  rcases kindW_is (l.take N) with h0 | ⟨h1,h2⟩
  ·rw [if_pos h0] at h ⊢
   split at h
   ·rename_i hn
    rw [if_pos hn]
    exact ⟨⟨hn,htk⟩,Nat.zero_le _,hsp,rfl⟩
   ·cases h
  ·have h0:kindW (l.take N)≠0:=by intro e;rw [e] at h1;simp [isKw] at h1
   rw [if_neg h0] at h ⊢
   split at h
   ·rename_i hn
    rw [if_pos hn]
    refine ⟨?_,Nat.zero_le _,hsp,h2⟩
    show isBs _
    unfold isBs;unfold isKw at h1;omega
   ·rename_i hn
    rw [if_neg hn]
    split at h
    ·cases h
    ·rename_i h60
     rw [if_neg h60]
     have e60:=head_take l 60 N (by simpa using h60)
     have hA:=ih (l.drop (N+1))
     dsimp only at h ⊢
     generalize parT r (l.drop (N+1))=p at *
     obtain ⟨pe,pt,pn⟩:=p
     dsimp only at h hA ⊢
     by_cases hpe:pe≠0
     ·rw [if_pos hpe] at h;exact absurd h hpe
     ·rw [if_neg hpe] at h ⊢
      have hA':=hA (by simpa using hpe)
      have hlen:pn≤l.length - (N+1):=by simpa using hA'.2.2.1
      have tk1:l.take (N+1+pn)=l.take N++60 :: showT pt:=by rw [take_seg,hA'.2.2.2,e60.1];simp
      by_cases h13:kindW (l.take N)=13
      ·rw [if_pos h13] at h ⊢
       split at h
       ·cases h
       ·rename_i h44
        rw [if_neg h44]
        have e44:=head_take l 44 (N+1+pn) (by simpa using h44)
        have hB:=ih (l.drop (N+1+pn+1))
        generalize parT r (l.drop (N+1+pn+1))=q at *
        obtain ⟨qe,qt,qn⟩:=q
        dsimp only at h hB ⊢
        by_cases hqe:qe≠0
        ·rw [if_pos hqe] at h;exact absurd h hqe
        ·rw [if_neg hqe] at h ⊢
         have hB':=hB (by simpa using hqe)
         have hlen2:qn≤l.length - (N+1+pn+1):=by simpa using hB'.2.2.1
         split at h
         ·cases h
         ·rename_i h62
          rw [if_neg h62]
          have e62:=head_take l 62 (N+1+pn+1+qn) (by simpa using h62)
          have tk2:l.take (N+1+pn+1+qn)=l.take N++60 :: (showT pt++44 :: showT qt):=by rw [take_seg,hB'.2.2.2,e44.1,tk1];simp
          refine ⟨⟨hA'.1,hB'.1⟩,?_,e62.2,?_⟩
          ·show max _ _+1≤_
           have:=hA'.2.1
           have:=hB'.2.1
           omega
          ·dsimp only
           rw [e62.1,tk2,h2,h13]
           simp [showT]
      ·rw [if_neg h13] at h ⊢
       split at h
       ·cases h
       ·rename_i h62
        rw [if_neg h62]
        have e62:=head_take l 62 (N+1+pn) (by simpa using h62)
        refine ⟨⟨by unfold isKw at h1;omega,hA'.1⟩,?_,e62.2,?_⟩
        ·show _+1≤_
         have:=hA'.2.1
         omega
        ·dsimp only
         rw [e62.1,tk1]
         show _=wordK _++_
         rw [← h2]
         simp
def wholeT (l:List UInt8):Nat×Ty :=
 if (parT 12 l).1≠0 then ((parT 12 l).1,.bs 0) else if (parT 12 l).2.2<l.length then (2,.bs 0) else (0,(parT 12 l).2.1)
end Go.Proofs.YtpfecpcgdfbekaaGreatDoor
namespace Go.Proofs.YtpfecpcgdfbekaaGreatDoor
def isPartS:List UInt8→Bool
 | []=>false
 | c :: _=>!isDig c
theorem partN_le (l:List UInt8):partN l≤l.length:=spanN_le _ l
theorem partN_cons (c:UInt8) (l:List UInt8):partN (c :: l)=if c=46 then 0 else partN l+1:=by
 have e:partN (c :: l)=if decide (c≠46)=true then partN l+1 else 0:=rfl
 rw [e]
 by_cases h:c=46 <;> simp [h]
theorem index_dot (l:List UInt8):Lib.index l [46]=if partN l<l.length then (partN l:Int) else -1:=by
 induction l with
 | nil=>rfl
 | cons c l ih =>
  unfold Lib.index
  rw [ih,partN_cons]
  by_cases h:c=46
  ·subst h;simp [List.isPrefixOf]
  ·have h':([46].isPrefixOf (c :: l))=false:=by simp [List.isPrefixOf];exact fun e=>h e.symm
   rw [if_neg (by simp [h'])]
   have hl:=partN_le l
   by_cases hlt:partN l<l.length
   ·rw [if_pos hlt,if_neg (by simp),if_neg h,if_pos (by simpa using hlt)];simp
   ·rw [if_neg hlt,if_pos (by simp),if_neg h,if_neg (by simpa using hlt)]
theorem cut_dot (l:List UInt8):Lib.cut l [46]=(l.take (partN l),if partN l<l.length then l.drop (partN l+1) else [],decide (partN l<l.length)):=by
 unfold Lib.cut
 rw [index_dot]
 have hl:=partN_le l
 by_cases hlt:partN l<l.length
 ·rw [if_pos hlt,if_pos (by simp),if_pos hlt,decide_eq_true hlt];simp
 ·rw [if_neg hlt,if_neg (by simp),if_neg hlt,decide_eq_false hlt,List.take_of_length_le (by omega)]
theorem farF_false (l:List UInt8):farF false l=if partN l<l.length then farF true (l.drop (partN l+1)) else true:=by
 induction l with
 | nil=>rfl
 | cons c l ih =>
  have e:farF false (c :: l)=farF (decide (c=46)) l:=rfl
  rw [e,partN_cons]
  by_cases h:c=46
  ·subst h;rw [if_pos rfl,if_pos (by simp)];rfl
  ·rw [decide_eq_false h,ih,if_neg h,List.length_cons,List.drop_succ_cons]
   by_cases h2:partN l<l.length
   ·rw [if_pos h2,if_pos (by omega)]
   ·rw [if_neg h2,if_neg (by omega)]
theorem farF_true (l:List UInt8):farF true l=(isPartS (l.take (partN l)) && (if partN l<l.length then farF true (l.drop (partN l+1)) else true)):=by
 cases l with
 | nil=>rfl
 | cons c l =>
  have e:farF true (c :: l)=((!isDig c && decide (c≠46)) && farF false l):=rfl
  rw [e,partN_cons]
  by_cases h:c=46
  ·subst h;rw [if_pos rfl];rfl
  ·rw [farF_false,if_neg h,List.length_cons,List.drop_succ_cons,List.take_succ_cons]
   have e2:isPartS (c :: l.take (partN l)) = !isDig c:=rfl
   rw [e2,show decide (c≠46)=true from decide_eq_true h,Bool.and_true]
   by_cases h2:partN l<l.length
   ·rw [if_pos h2,if_pos (by omega)]
   ·rw [if_neg h2,if_neg (by omega)]
end Go.Proofs.YtpfecpcgdfbekaaGreatDoor
namespace Go.Proofs.YtpfecpcgdfbekaaGreatDoor
open Go.RowKit
theorem Oth.maxC {w w':World} {b:Nat} (h:Oth b w w') (hm:MaxC w) (hb:b≠1):MaxC w':=by
 obtain ⟨m,hm⟩:=hm
 refine ⟨m,?_⟩
 have:=h.block _ (World.block_lt_of_cell? w _ hm) (fun e=>hb e.symm)
 rw [← hm]
 unfold World.cell?
 simp only
 rw [this]
end Go.Proofs.YtpfecpcgdfbekaaGreatDoor
namespace Go.Proofs.YtpfecpcgdfbekaaGreatDoor
open Go.RowKit
theorem wpList_bytes {P:Program} (w:World) {ops:Array Oper} {rest:List Oper} {o:Oper} {a:Act} {Q:Exit→Act→World→Prop} {src dst e:TypeId} (hgd:o.guard=none) (x:Operand) (ho:o.op = .convert src dst x) (hs:P.underlying src=some .string) (hd:P.underlying dst=some (.slice e)) (he:P.underlying e=some (.int .u8))
  (s:ByteArray) (l:List UInt8) (hl:Tx s l) (hx:a.eval x = .string s)
  (h:∀ c w',Rd bv w' (some ⟨w.heap.size,0,none⟩) l→Nx w w'→wpList P ops Q rest (a.put o.dst (.slice (some ⟨w.heap.size,0,none⟩) l.length c)) w'):wpList P ops Q (o :: rest) a w:=by
 refine wpList_plain hgd fun K hK=>?_
 have hrun:=Lib.run_convert_string_bytes (P:=P) w src dst e s hs hd he
 have hn:Nx w (Lib.bytesWorld w e s):=Joins.below_bytesWorld _ w e s (Nat.le_refl _)
 have hr:Rd bv (Lib.bytesWorld w e s) (some ⟨w.heap.size,0,none⟩) l:=by
  intro h0
  refine ⟨w.heap.size,0,rfl,by rw [Lib.bytesWorld_size];omega,fun j hj=>?_⟩
  rw [Nat.zero_add,Lib.bytesWorld_cell w e s j (by rw [hl.size];exact hj),show s.data.toList=l from hl]
  simp [bv,hj]
 have:=hK _ _ (h (grownCap w s.size 0 e) _ hr hn)
 unfold Oper.wp execOp
 simp only [ho,Sem.run_bind,Sem.run_pure,Result.andThen_ok,hx,hrun]
 rw [hl.size] at *
 exact this
def kwB (k:Nat):ByteArray:=⟨(wordK k).toArray⟩
def kwV:Array Value:=#[.string (kwB 0),.string (kwB 1),.string (kwB 2),.string (kwB 3),.string (kwB 4),.string (kwB 5),.string (kwB 6),.string (kwB 7),.string (kwB 8),.string (kwB 9),.string (kwB 10),.string (kwB 11),.string (kwB 12),.string (kwB 13),.string (kwB 14),.string (kwB 15),.string (kwB 16)]
theorem kwV_at (i:Nat) (h:i<17):kwV[i]? = some (.string (kwB i)):=by
 have h':i ∈ List.range 17:=List.mem_range.2 h
 simp only [List.range,List.range.loop,List.mem_cons,List.not_mem_nil,or_false] at h'
 rcases h' with rfl | rfl | rfl | rfl | rfl | rfl | rfl | rfl | rfl | rfl | rfl | rfl | rfl | rfl | rfl | rfl | rfl <;> rfl
theorem wpList_index_arr {P:Program} (w:World) {ops:Array Oper} {rest:List Oper} {o:Oper} {a:Act} {Q:Exit→Act→World→Prop} (hgd:o.guard=none) (t e:TypeId) (n:Nat) (x i:Operand) (ho:o.op = .index t x i)
  (ht:P.underlying t=some (.array n e)) (d:TypeDesc) (he:P.underlying e=some d) (hd:(match d with | .struct _ | .array _ _=>false | _=>true)=true) (hz:(P.info? e).map (·.size)=some 1)
  (cs:Array Value) (hx:a.eval x = .agg cs) (k:Nat) (hi:a.eval i = .int .i64 k) (hk:k<n) (v:Value) (hv:cs[k]? = some v)
  (h:wpList P ops Q rest (a.put o.dst v) w):wpList P ops Q (o :: rest) a w:=by
 refine wpList_plain hgd fun K hK=>?_
 have:=hK _ _ h
 have hagg:(isAgg e).run P w = .ok false w:=by
  unfold isAgg
  rw [Sem.run_bind,run_underlying he w]
  cases d <;> simp_all
 have hk':(0:Int)≤(k:Int)∧(k:Int)<(n:Int):=by omega
 cases hq:P.info? e with
 | none=>rw [hq] at hz;cases hz
 | some inf =>
  have hs:inf.size=1:=by rw [hq] at hz;simpa using hz
  have hrun:(Instr.index t (.agg cs) (.int .i64 k)).run P w = .ok v w:=by
   unfold Instr.index
   simp only [asIntOf,Sem.run_bind,Sem.run_pure,Result.andThen_ok,run_underlying ht]
   rw [if_pos hk']
   simp [Sem.run_bind,sizeOf,typeInfo,hq,hs,part,hagg,hv]
  unfold Oper.wp execOp
  simp only [ho,Sem.run_bind,Sem.run_pure,Result.andThen_ok,hx,hi,hrun]
  exact this
theorem kind_at (l:List UInt8) (k:Nat) (hk:k<17) (h1:∀ j,j<k→wordK j≠l) (h2:wordK k=l):kindW l=k:=by
 subst h2
 have h':k ∈ List.range 17:=List.mem_range.2 hk
 simp only [List.range,List.range.loop,List.mem_cons,List.not_mem_nil,or_false] at h'
 rcases h' with rfl | rfl | rfl | rfl | rfl | rfl | rfl | rfl | rfl | rfl | rfl | rfl | rfl | rfl | rfl | rfl | rfl <;> first | decide | exact absurd rfl (h1 0 (by decide))
theorem kind_no (l:List UInt8) (h:∀ j,j<17→wordK j≠l):kindW l=0:=by
 rcases kindW_is l with h0 | ⟨h1,h2⟩
 ·exact h0
 ·exact absurd h2.symm (h _ (by unfold isKw at h1;omega))
theorem cut_parts (l:List UInt8):∃ A B C,Hid (Lib.cut l [46]=(A,B,C))∧Hid (farF true l=(isPartS A && (!C || farF true B)))∧Hid (nameOk l=(farF true l && decide (kindW A=0)))∧A.length≤l.length∧B.length≤l.length∧(C=true→B.length<l.length):=by
 refine ⟨l.take (partN l),if partN l<l.length then l.drop (partN l+1) else [],decide (partN l<l.length),cut_dot l,?_,rfl,by simp [Nat.min_le_right],?_,?_⟩
 ·unfold Hid
  rw [farF_true]
  by_cases h:partN l<l.length
  ·rw [if_pos h,if_pos h,decide_eq_true h];rfl
  ·rw [if_neg h,if_neg h,decide_eq_false h];rfl
 ·split <;> simp
 ·intro h
  have h:=of_decide_eq_true h
  rw [if_pos h,List.length_drop];omega
end Go.Proofs.YtpfecpcgdfbekaaGreatDoor
namespace Go.Proofs.YtpfecpcgdfbekaaGreatDoor
namespace RI
section
variable {P:Program} {md:Region.Mode} (l:List Oper) (a0:Act) (V:Nat→Value→World→Prop) (S:World→Prop) (R:World→World→Prop)
variable {l a0 V S R}
theorem Vof.keeps {Vs:List (Value→World→Prop)} {R:World→World→Prop} (h:∀ p ∈ Vs,∀ v w w',p v w→R w w'→p v w'):∀ j v w w',Vof Vs j v w→R w w'→Vof Vs j v w':=by
 intro j v w w' h1 h2
 unfold Vof at *
 rw [List.getD_eq_getElem?_getD] at *
 cases hj:Vs[j]? with
 | none=>trivial
 | some p =>
  rw [hj] at h1
  exact h p (List.mem_of_getElem? hj) v w w' h1 h2
end
end RI
end Go.Proofs.YtpfecpcgdfbekaaGreatDoor
namespace Go.Proofs.YtpfecpcgdfbekaaGreatDoor
namespace RI
section
variable {P:Program} (L:List Oper) (a0:Act) (V:Nat→Value→World→Prop) (S:Array Bool→World→Prop) (R:World→World→Prop)
variable {L a0 V S R}
theorem inv_anyN {Q:Exit→Act→World→Prop} (hok:okB L=true) (hg:L.all (fun o=>o.guard == none)=true) (hV:∀ j v w w',V j v w→R w w'→V j v w') (hs:StepsN L a0 V S R P L 0)
  (hend:∀ (x:Nat→Value) ls w,S ls w→(∀ j,j<L.length→ls.getD j false=true)→(∀ j,j<L.length→V j (x j) w)→Q .normal (PA L 0 x a0) w) :
  ∀ (f:Nat) (listed:Array Bool) (x:Nat→Value) (w:World),listed.size=L.length→unl L.length listed≤f→S listed w→(∀ j,listed.getD j false=true→V j (x j) w) →
   wpAny P .any L.toArray Q f listed (PA L 0 x a0) w:=by
 simp only [okB,Bool.and_eq_true,decide_eq_true_eq] at hok
 obtain ⟨hb,hn⟩:=hok
 have fin:∀ (listed:Array Bool) (x:Nat→Value) (w:World),listed.size=L.length→S listed w→(∀ j,listed.getD j false=true→V j (x j) w)→(∀ i,i<L.length→listed.getD i true=true)→Q .normal (PA L 0 x a0) w:=by
  intro listed x w hz hS hx hall
  have hall':∀ j,j<L.length→listed.getD j false=true:=fun j hj=>by
   have h4:j<listed.size:=by omega
   simpa [h4] using hall j hj
  exact hend x listed w hS hall' fun j hj=>hx j (hall' j hj)
 intro f
 induction f with
 | zero =>
  intro listed x w hz hf hS hx
  have hall:∀ i,i<L.length→listed.getD i true=true:=by
   intro i hi
   cases h:listed.getD i true with
   | true=>rfl
   | false =>
    exfalso
    have:i ∈ (List.range L.length).filter fun i=>!listed.getD i true:=List.mem_filter.2 ⟨List.mem_range.2 hi,by rw [h];rfl⟩
    have:=List.length_pos_of_mem this
    unfold unl at hf
    omega
  refine ⟨?_,fin listed x w hz hS hx hall⟩
  rw [List.eq_nil_iff_forall_not_mem]
  intro i hi
  obtain ⟨h1,o,ho,-⟩:=mem_ready.1 hi
  have hi2:i<L.length:=by
   have:=(Array.getElem?_eq_some_iff.1 ho).1
   simpa using this
  rw [hall i hi2] at h1
  cases h1
 | succ f ih =>
  intro listed x w hz hf hS hx
  refine ⟨fun hr=>fin listed x w hz hS hx (all_listed hb hz hr),fun i hi=>?_⟩
  obtain ⟨h1,o,ho,hdep⟩:=mem_ready.1 hi
  have hi2:i<L.length:=by
   have:=(Array.getElem?_eq_some_iff.1 ho).1
   simpa using this
  have hol:L[i]? = some o:=by simpa using ho
  have hgd:o.guard=none:=by
   have:=List.all_eq_true.1 hg o (List.mem_of_getElem? hol)
   simpa using this
  have hst:=hs.at_ i o hol
  rw [Nat.zero_add] at hst
  have h:=hst (PA L 0 x a0) x listed w hS hz h1 (fun d i g1 g2=>PA_slot g1 g2) (fun d g1=>PA_old_slot g1) (fun e he hbd=>hx e.on (hdep e (by simpa using he) hbd)) (wpAny P .any L.toArray Q f (listed.setIfInBounds i true)) (by
   intro w' v hv hS' hR
   rw [PA_upd L 0 x a0 i o v hn hol,Nat.zero_add]
   refine ih (listed.setIfInBounds i true) (upd x i v) w' (by simpa using hz) ?_ hS' ?_
   ·have:unl L.length (listed.setIfInBounds i true)<unl L.length listed:=by
     refine filter_lt _ _ _ ?_ i (List.mem_range.2 hi2) ?_ ?_
     ·intro y hy hp
      by_cases hyi:i=y
      ·subst hyi
       have h4:i<listed.size:=by omega
       simp [h4] at hp
      ·rw [getD_set_ne true hyi] at hp;exact hp
     ·have h4:i<listed.size:=by omega
      simp [h4]
     ·rw [h1];rfl
    omega
   ·intro j hj
    by_cases hji:j=i
    ·subst hji;rw [upd_same];exact hv
    ·rw [upd_ne _ _ _ _ hji]
     rw [getD_set_ne false (Ne.symm hji)] at hj
     exact hV _ _ _ _ (hx j hj) hR)
  unfold wpOp
  rw [ho]
  dsimp only
  rw [if_pos (by unfold Region.wanted;rw [hgd])]
  exact .inl (wp_mono_both (fun _ _ h=>h) h trivial)
theorem wp_region_N {id:Nat} {Q:Exit→Act→World→Prop} {w:World} {ops:Array Oper} (V:Nat→Value→World→Prop) (S:Array Bool→World→Prop) (R:World→World→Prop) (hm:P.follows .mixedOrders=true) (hok:okB ops.toList=true) (hg:ops.toList.all (fun o=>o.guard == none)=true)
  (hV:∀ j v w w',V j v w→R w w'→V j v w') (hS:S (Array.replicate ops.size false) { w with drawn:=w.drawn+1 }) (hs:StepsN ops.toList a0 V S R P ops.toList 0)
  (hend:∀ (A:Act) (x:Nat→Value) ls w,S ls w→(∀ j,j<ops.toList.length→ls.getD j false=true)→(∀ d i,slotB ops.toList d i=true→d<a0.tmps.size→A.eval (.tmp d)=x i)→(∀ d,(dsts ops.toList).contains d=false→A.eval (.tmp d)=a0.eval (.tmp d))→(∀ j,j<ops.toList.length→V j (x j) w) →
   RowKit.Hid (A=⟨(setAll ops.toList 0 x a0.tmps.toList).toArray,a0.defers⟩)→Q .normal A w):(Code.region id ops true).wp P Q a0 w:=by
 refine wp_region_any hm ?_
 have hold:PA ops.toList 0 (old a0 ops.toList) a0=a0:=PA_old ops.toList 0 _ a0 (fun i o d h1 h2=>by unfold old;rw [Nat.zero_add,h1];simp [h2])
 have hrep:∀ j d,j<ops.toList.length→(Array.replicate ops.size false).getD j d=false:=by
  intro j d hj
  simp at hj
  simp [Array.getElem?_replicate,hj]
 have:=inv_anyN (P:=P) (Q:=Q) hok hg hV hs (fun x ls w h1 h2 h3=>hend (PA ops.toList 0 x a0) x ls w h1 h2 (fun d i g1 g2=>PA_slot g1 g2) (fun d g1=>PA_old_slot g1) h3 (PA_list ops.toList 0 x a0)) ops.size (Array.replicate ops.size false) (old a0 ops.toList) { w with drawn:=w.drawn+1 } (by simp) ?_ hS ?_
 ·rw [hold] at this
  simpa using this
 ·unfold unl
  have:=List.length_filter_le (fun i=>!(Array.replicate ops.size false).getD i true) (List.range ops.toList.length)
  simp only [List.length_range] at this
  simpa using this
 ·intro j hj
  exfalso
  revert hj
  rw [Array.getD_eq_getD_getElem?]
  cases h:(Array.replicate ops.size false)[j]? with
  | none=>simp
  | some b =>
   have:=Array.getElem?_eq_some_iff.1 h
   obtain ⟨h1,h2⟩:=this
   simp at h2
   simp [← h2]
end
end RI
end Go.Proofs.YtpfecpcgdfbekaaGreatDoor
namespace Go.Proofs.YtpfecpcgdfbekaaGreatDoor
open Go.RowKit
theorem plc_inj {k n k' n':Nat} (h:plc k n=plc k' n'):k=k'∧n=n':=by
 unfold plc at h
 simp at h
 omega
theorem signV_lt {k n v:Nat} (h:signV k n=some v):k<17∧n<4:=by
 unfold signV at h
 split at h
 ·omega
 ·split at h
  ·omega
  ·split at h
   ·omega
   ·cases h
theorem zero_u8 (w:World):(zeroValue 5).run Tryz.prog w = .ok (.int .u8 0) w:=by kernel_rfl
theorem SgS.made {W w:World} {ls:Array Bool} (hz:0<ls.size) (hw:w.heap.size=W.heap.size) (hn:Nx W w):SgS W (ls.setIfInBounds 0 true) (w.alloc (.map #[] 0)):=by
 refine ⟨hn.al _,.inr ⟨by simp [hz],#[],0,?_,fun e he=>by simp at he⟩⟩
 rw [← hw];exact heap_alloc_new w _
theorem SgR.made {W w:World} (hw:w.heap.size=W.heap.size):SgR W w (w.alloc (.map #[] 0)):=fun es c h=>by
 rw [← hw] at h
 simp at h
end Go.Proofs.YtpfecpcgdfbekaaGreatDoor
namespace Go.Proofs.YtpfecpcgdfbekaaGreatDoor
open Go.RowKit
theorem info_u8:(Tryz.prog.info? 5).map (fun i=>(i.zero,i.size,i.bytes))=some (some (.int .u8 0),1,1):=by kernel_rfl
end Go.Proofs.YtpfecpcgdfbekaaGreatDoor
namespace Go.Proofs.YtpfecpcgdfbekaaGreatDoor
open Go.RowKit
theorem Fr.maxC {b:Nat} {v v':Value} {w w':World} (h:Fr b v w v' w') (k:MaxC w) (hb:1≠b) (hv:v.ownBlock≠some 1):MaxC w':=by
 obtain ⟨m,hm⟩:=k
 refine ⟨m,?_⟩
 have:=h.block _ (World.block_lt_of_cell? w _ hm) hb hv
 rw [← hm]
 unfold World.cell?
 simp only
 rw [this]
end Go.Proofs.YtpfecpcgdfbekaaGreatDoor
namespace Go.Proofs.YtpfecpcgdfbekaaGreatDoor
open Go.RowKit
def atK (b:Nat) (w:World):Nat:=match w.cell? ⟨b,1,none⟩ with
 | some (.int _ n)=>n.toNat
 | _=>0
theorem Tx.byteK {s:ByteArray} {l:List UInt8} (h:Tx s l) (o:Nat) (c:UInt8) (r:List UInt8) (hd:l.drop o=c :: r):o<l.length∧∃ hp:o<s.size,s[o]'hp=c:=by
 have h1:o<l.length:=by
  rcases Nat.lt_or_ge o l.length with h | h
  ·exact h
  ·rw [List.drop_eq_nil_iff.2 h] at hd;cases hd
 obtain ⟨hp,e⟩:=h.idx o h1
 refine ⟨h1,hp,?_⟩
 rw [e]
 have e2:=List.drop_eq_getElem_cons h1
 rw [e2] at hd
 injection hd
theorem drop_cons {l r:List UInt8} {o:Nat} {c:UInt8} (hd:l.drop o=c :: r):l.drop (o+1)=r:=by
 rw [← List.drop_drop,hd];rfl
end Go.Proofs.YtpfecpcgdfbekaaGreatDoor
namespace Go.Proofs.YtpfecpcgdfbekaaGreatDoor
def innT (par:List UInt8→Nat×Ty×Nat) (k:Nat) (l:List UInt8):Nat×Ty×Nat :=
 if l.head?≠some 60 then noTy 2
 else if (par (l.drop 1)).1≠0 then noTy (par (l.drop 1)).1
 else if k=13 then
  if (l.drop (1+(par (l.drop 1)).2.2)).head?≠some 44 then noTy 2
  else if (par (l.drop (1+(par (l.drop 1)).2.2+1))).1≠0 then noTy (par (l.drop (1+(par (l.drop 1)).2.2+1))).1
  else if (l.drop (1+(par (l.drop 1)).2.2+1+(par (l.drop (1+(par (l.drop 1)).2.2+1))).2.2)).head?≠some 62 then noTy 2
  else (0,.mp (par (l.drop 1)).2.1 (par (l.drop (1+(par (l.drop 1)).2.2+1))).2.1,1+(par (l.drop 1)).2.2+1+(par (l.drop (1+(par (l.drop 1)).2.2+1))).2.2+1)
 else if (l.drop (1+(par (l.drop 1)).2.2)).head?≠some 62 then noTy 2
 else (0,.l1 k (par (l.drop 1)).2.1,1+(par (l.drop 1)).2.2+1)
def witT (r k:Nat) (l:List UInt8):Nat×Ty×Nat :=
 if k≠13∧k≠14∧k≠15 then (0,.bs k,0)
 else match r with
  | 0=>noTy 6
  | r+1=>innT (parT r) k l
def addT (n:Nat) (p:Nat×Ty×Nat):Nat×Ty×Nat:=if p.1≠0 then noTy p.1 else (0,p.2.1,n+p.2.2)
def nameT (w:List UInt8):Nat×Ty×Nat:=if nameOk w then (0,.nm w,w.length) else noTy 2
theorem wl (l:List UInt8):(l.take (spanN isNmS l)).length=spanN isNmS l:=by
 have:=spanN_le isNmS l
 simp;omega
theorem parT_word (r:Nat) (l:List UInt8):parT r l=if kindW (l.take (spanN isNmS l))=0 then nameT (l.take (spanN isNmS l)) else addT (spanN isNmS l) (witT r (kindW (l.take (spanN isNmS l))) (l.drop (spanN isNmS l))):=by
 unfold nameT
 rw [wl]
 cases r with
 | zero =>
  unfold parT witT
  generalize kindW (l.take (spanN isNmS l))=k
  by_cases h0:k=0
  ·rw [if_pos h0,if_pos h0]
  ·rw [if_neg h0,if_neg h0]
   by_cases h1:k≠13∧k≠14∧k≠15
   ·rw [if_pos h1,if_pos h1];rfl
   ·rw [if_neg h1,if_neg h1];rfl
 | succ r =>
  unfold parT witT
  generalize kindW (l.take (spanN isNmS l))=k
  generalize spanN isNmS l=N
  by_cases h0:k=0
  ·rw [if_pos h0,if_pos h0]
  ·rw [if_neg h0,if_neg h0]
   by_cases h1:k≠13∧k≠14∧k≠15
   ·rw [if_pos h1,if_pos h1];rfl
   ·rw [if_neg h1,if_neg h1]
    dsimp only
    unfold innT
    rw [List.drop_drop]
    generalize hp:parT r (l.drop (N+1))=p
    obtain ⟨pe,pt,pn⟩:=p
    dsimp only
    by_cases g1:(l.drop N).head?≠some 60
    ·rw [if_pos g1,if_pos g1];rfl
    ·rw [if_neg g1,if_neg g1]
     by_cases g2:pe≠0
     ·rw [if_pos g2,if_pos g2]
      unfold addT noTy
      rw [if_pos g2]
     ·rw [if_neg g2,if_neg g2]
      have e1:(l.drop N).drop (1+pn)=l.drop (N+1+pn):=by rw [List.drop_drop];congr 1;omega
      have e2:(l.drop N).drop (1+pn+1)=l.drop (N+1+pn+1):=by rw [List.drop_drop];congr 1;omega
      rw [e1,e2]
      by_cases h13:k=13
      ·rw [if_pos h13,if_pos h13]
       generalize hq:parT r (l.drop (N+1+pn+1))=q
       obtain ⟨qe,qt,qn⟩:=q
       dsimp only
       by_cases g3:(l.drop (N+1+pn)).head?≠some 44
       ·rw [if_pos g3,if_pos g3];rfl
       ·rw [if_neg g3,if_neg g3]
        by_cases g4:qe≠0
        ·rw [if_pos g4,if_pos g4]
         unfold addT noTy
         rw [if_pos g4]
        ·rw [if_neg g4,if_neg g4]
         have e3:(l.drop N).drop (1+pn+1+qn)=l.drop (N+1+pn+1+qn):=by rw [List.drop_drop];congr 1;omega
         rw [e3]
         by_cases g5:(l.drop (N+1+pn+1+qn)).head?≠some 62
         ·rw [if_pos g5,if_pos g5];rfl
         ·rw [if_neg g5,if_neg g5]
          unfold addT
          rw [if_neg (by simp)]
          congr 2
          dsimp only
          omega
      ·rw [if_neg h13,if_neg h13]
       by_cases g3:(l.drop (N+1+pn)).head?≠some 62
       ·rw [if_pos g3,if_pos g3];rfl
       ·rw [if_neg g3,if_neg g3]
        unfold addT
        rw [if_neg (by simp)]
        congr 2
        dsimp only
        omega
theorem names_len (t:Ty) (h:wfT t):(namesT t).length≤(showT t).length:=by
 induction t with
 | nm s =>
  cases s with
  | nil=>exact absurd h.1 (by decide)
  | cons c s=>simp [namesT,showT]
 | bs k=>simp [namesT]
 | l1 k a ih=>have:=ih h.2;simp [namesT,showT];omega
 | mp a b iha ihb=>have:=iha h.1;have:=ihb h.2;simp [namesT,showT];omega
theorem parT_names (r:Nat) (l:List UInt8) (h:(parT r l).1=0):(namesT (parT r l).2.1).length≤(parT r l).2.2∧(parT r l).2.2≤l.length:=by
 obtain ⟨h1,-,h3,h4⟩:=parT_sound r l h
 refine ⟨?_,h3⟩
 have:=names_len _ h1
 rw [← h4] at this
 simp at this
 omega
end Go.Proofs.YtpfecpcgdfbekaaGreatDoor
namespace Go.Proofs.YtpfecpcgdfbekaaGreatDoor
open Go.RowKit
theorem results_cell_tmp_rowK {P:Program} {fn:Func} {p u:Tmp} {ty:TypeId} (h:fn.results=#[.cell p ty,.tmp u]) (tmps:Array Value) (w:World) (g:Nat) (t:TypeId) (cs:Array Value) (fr:Nat×Nat) (d:TypeDesc)
  (hp:tmps.getD p undef = .pointer (some ⟨g,0,none⟩)) (hg:w.heap[g]? = some (.cells cs t fr))
  (hu:P.underlying ty=some d) (hd:(match d with | .struct _ | .array _ _=>true | _=>false)=true) (hi:(P.info? ty).map (·.size)=some cs.size) :
  (results fn tmps).run P w = .ok (.tuple #[.agg cs,tmps.getD u undef]) w:=by
 have hp':tmps[p]?.getD undef = .pointer (some ⟨g,0,none⟩):=by simpa using hp
 simp [results,h,hp',asAddr,run_loadVar_row w g t ty cs fr d hg hu hd hi]
def nmB (t:Ty):List ByteArray:=(namesT t).map fun x=>⟨x.toArray⟩
def HeadIs (t:Ty) (K:Int) (N A C:ByteArray):Prop:=K=((headT t).1:Nat)∧Tx N (headT t).2.1∧Tx A (headT t).2.2.1∧Tx C (headT t).2.2.2
end Go.Proofs.YtpfecpcgdfbekaaGreatDoor
namespace Go.Proofs.YtpfecpcgdfbekaaGreatDoor
open Go.RowKit
theorem sign_l0 {k:Nat} (h:k=14∨k=15):signV k 0=some 60:=by rcases h with rfl | rfl <;> rfl
theorem sign_l1 {k:Nat} (h:k=14∨k=15):signV k 1=some 62:=by rcases h with rfl | rfl <;> rfl
theorem sign_l2 {k:Nat} (h:k=14∨k=15):signV k 2=none:=by rcases h with rfl | rfl <;> rfl
def noB:ByteArray:=⟨#[]⟩
def StL (p:Nat×Ty×Nat) (l:List UInt8) (o DP D1:Nat) (ns:List ByteArray) (j o' DP':Nat) (ns':List ByteArray) (A C:ByteArray):Prop :=
 (j=0∧o'=o∧DP'=DP∧ns'=ns∧A=noB∧C=noB) ∨
 (j=1∧(l.drop o).head? = some 60∧p.1=0∧o'=o+1+p.2.2∧DP'=max DP (D1+depthT p.2.1)∧ns'=ns++nmB p.2.1∧Tx A (showT p.2.1)∧C=noB) ∨
 (j=2∧(l.drop o).head? = some 60∧p.1=0∧(l.drop (o+1+p.2.2)).head? = some 62∧o'=o+1+p.2.2+1∧DP'=max DP (D1+depthT p.2.1)∧ns'=ns++nmB p.2.1∧Tx A (showT p.2.1)∧C=noB)
theorem Blk.put2 {w:World} {B g:Nat} {T:TypeId} {a0 a1 v0 v1:Value} (h:Blk w B g #[a0,a1] T):Blk ((w.setCell ⟨g,0,none⟩ v0).setCell ⟨g,1,none⟩ v1) B g #[v0,v1] T:=(h.put 0 v0).put 1 v1
theorem Fr.put2 {b g:Nat} {v v' v0 v1:Value} {w w':World} (h:Fr b v w v' w') (hg:w.heap.size≤g):Fr b v w v' ((w'.setCell ⟨g,0,none⟩ v0).setCell ⟨g,1,none⟩ v1):=(h.put hg 0 v0).put hg 1 v1
theorem nmB_len (t:Ty):(nmB t).length=(namesT t).length:=by simp [nmB]
end Go.Proofs.YtpfecpcgdfbekaaGreatDoor
namespace Go.Proofs.YtpfecpcgdfbekaaGreatDoor
open Go.RowKit
theorem sign_m0:signV 13 0=some 60:=rfl
theorem sign_m1:signV 13 1=some 44:=rfl
theorem sign_m2:signV 13 2=some 62:=rfl
theorem sign_m3:signV 13 3=none:=rfl
def StM (p q:Nat×Ty×Nat) (l:List UInt8) (o DP D1:Nat) (ns:List ByteArray) (j o' DP':Nat) (ns':List ByteArray) (A C:ByteArray):Prop :=
 (j=0∧o'=o∧DP'=DP∧ns'=ns∧A=noB∧C=noB) ∨
 (j=1∧(l.drop o).head? = some 60∧p.1=0∧o'=o+1+p.2.2∧DP'=max DP (D1+depthT p.2.1)∧ns'=ns++nmB p.2.1∧Tx A (showT p.2.1)∧C=noB) ∨
 (j=2∧(l.drop o).head? = some 60∧p.1=0∧(l.drop (o+1+p.2.2)).head? = some 44∧q.1=0∧o'=o+1+p.2.2+1+q.2.2∧DP'=max (max DP (D1+depthT p.2.1)) (D1+depthT q.2.1)∧ns'=ns++nmB p.2.1++nmB q.2.1∧Tx A (showT p.2.1)∧Tx C (showT q.2.1)) ∨
 (j=3∧(l.drop o).head? = some 60∧p.1=0∧(l.drop (o+1+p.2.2)).head? = some 44∧q.1=0∧(l.drop (o+1+p.2.2+1+q.2.2)).head? = some 62∧o'=o+1+p.2.2+1+q.2.2+1∧DP'=max (max DP (D1+depthT p.2.1)) (D1+depthT q.2.1)∧ns'=ns++nmB p.2.1++nmB q.2.1∧Tx A (showT p.2.1)∧Tx C (showT q.2.1))
end Go.Proofs.YtpfecpcgdfbekaaGreatDoor
namespace Go.Proofs.YtpfecpcgdfbekaaGreatDoor
open Go.RowKit
theorem innT_depth (par:List UInt8→Nat×Ty×Nat) (k:Nat) (l:List UInt8) (h:(innT par k l).1=0):1≤depthT (innT par k l).2.1:=by
 unfold innT at h ⊢
 split at h
 ·cases h
 ·rename_i h1
  rw [if_neg h1]
  split at h
  ·rename_i h2;exact absurd h h2
  ·rename_i h2
   rw [if_neg h2]
   split at h
   ·rename_i h3
    rw [if_pos h3]
    split at h
    ·cases h
    ·rename_i h4
     rw [if_neg h4]
     split at h
     ·rename_i h5;exact absurd h h5
     ·rename_i h5
      rw [if_neg h5]
      split at h
      ·cases h
      ·rename_i h6
       rw [if_neg h6]
       simp [depthT]
   ·rename_i h3
    rw [if_neg h3]
    split at h
    ·cases h
    ·rename_i h4
     rw [if_neg h4]
     simp [depthT]
theorem sign_other {k:Nat} (h:k≠13∧k≠14∧k≠15):signV k 0=none:=by
 unfold signV
 rw [if_neg (by omega),if_neg (by omega),if_neg (by omega)]
theorem sign_some {k:Nat} (h:k=13∨k=14∨k=15):signV k 0=some 60:=by
 unfold signV
 rw [if_pos (by omega)]
end Go.Proofs.YtpfecpcgdfbekaaGreatDoor
namespace Go.Proofs.YtpfecpcgdfbekaaGreatDoor
open Go.RowKit
theorem Blk.put4 {w:World} {B g:Nat} {T:TypeId} {a0 a1 a2 a3 v0 v1 v2 v3:Value} (h:Blk w B g #[a0,a1,a2,a3] T) :
  Blk ((((w.setCell ⟨g,0,none⟩ v0).setCell ⟨g,1,none⟩ v1).setCell ⟨g,2,none⟩ v2).setCell ⟨g,3,none⟩ v3) B g #[v0,v1,v2,v3] T:=(((h.put 0 v0).put 1 v1).put 2 v2).put 3 v3
theorem Fr.put4 {b g:Nat} {v v' v0 v1 v2 v3:Value} {w w':World} (h:Fr b v w v' w') (hg:w.heap.size≤g):Fr b v w v' ((((w'.setCell ⟨g,0,none⟩ v0).setCell ⟨g,1,none⟩ v1).setCell ⟨g,2,none⟩ v2).setCell ⟨g,3,none⟩ v3):=(((h.put hg 0 v0).put hg 1 v1).put hg 2 v2).put hg 3 v3
theorem OwnN.set4 {w:World} {B c:Nat} {v v0 v1 v2 v3:Value} {xs:List ByteArray} (h:OwnN w B v xs) (hc:v.ownBlock≠some c) :
  OwnN ((((w.setCell ⟨c,0,none⟩ v0).setCell ⟨c,1,none⟩ v1).setCell ⟨c,2,none⟩ v2).setCell ⟨c,3,none⟩ v3) B v xs:=(((h.set hc 0 v0).set hc 1 v1).set hc 2 v2).set hc 3 v3
theorem cells4 {w:World} {B g:Nat} {T:TypeId} {a0 a1 a2 a3:Value} (h:Blk w B g #[a0,a1,a2,a3] T) :
  w.cell? ⟨g,0,none⟩=some a0∧w.cell? ⟨g,1,none⟩=some a1∧w.cell? ⟨g,2,none⟩=some a2∧w.cell? ⟨g,3,none⟩=some a3∧w.frozen? ⟨g,0,none⟩=false∧w.frozen? ⟨g,1,none⟩=false∧w.frozen? ⟨g,2,none⟩=false∧w.frozen? ⟨g,3,none⟩=false :=
 ⟨h.cell 0,h.cell 1,h.cell 2,h.cell 3,h.free 0,h.free 1,h.free 2,h.free 3⟩
theorem addT_err (n:Nat) (p:Nat×Ty×Nat):(addT n p).1=p.1:=by
 unfold addT
 split
 ·rfl
 ·rename_i h;simp at h;exact h.symm
theorem addT_ok (n:Nat) (p:Nat×Ty×Nat) (h:p.1=0):addT n p=(0,p.2.1,n+p.2.2):=by
 unfold addT
 rw [if_neg (by simpa using h)]
theorem innT_head (par:List UInt8→Nat×Ty×Nat) (k:Nat) (l:List UInt8) (h:(innT par k l).1=0):(headT (innT par k l).2.1).1=k∧(headT (innT par k l).2.1).2.1=[]:=by
 unfold innT at h ⊢
 split at h
 ·cases h
 ·rename_i h1
  rw [if_neg h1]
  split at h
  ·rename_i h2;exact absurd h h2
  ·rename_i h2
   rw [if_neg h2]
   split at h
   ·rename_i h3
    rw [if_pos h3]
    split at h
    ·cases h
    ·rename_i h4
     rw [if_neg h4]
     split at h
     ·rename_i h5;exact absurd h h5
     ·rename_i h5
      rw [if_neg h5]
      split at h
      ·cases h
      ·rename_i h6
       rw [if_neg h6]
       exact ⟨h3.symm,rfl⟩
   ·rename_i h3
    rw [if_neg h3]
    split at h
    ·cases h
    ·rename_i h4
     rw [if_neg h4]
     exact ⟨rfl,rfl⟩
theorem witT_head (r k:Nat) (l:List UInt8) (h:(witT r k l).1=0):(headT (witT r k l).2.1).1=k∧(headT (witT r k l).2.1).2.1=[]:=by
 unfold witT at h ⊢
 split at h
 ·rename_i h1
  rw [if_pos h1]
  exact ⟨rfl,rfl⟩
 ·rename_i h1
  rw [if_neg h1]
  cases r with
  | zero=>cases h
  | succ r=>exact innT_head _ _ _ h
end Go.Proofs.YtpfecpcgdfbekaaGreatDoor
namespace Go.Proofs.YtpfecpcgdfbekaaGreatDoor
open Go.RowKit
theorem results_2cell_tmp_row {P:Program} {fn:Func} {p q u:Tmp} {ty ty2:TypeId} (h:fn.results=#[.cell p ty,.cell q ty2,.tmp u]) (tmps:Array Value) (w:World) (g g2:Nat) (t t2:TypeId) (cs cs2:Array Value) (fr fr2:Nat×Nat) (d d2:TypeDesc)
  (hp:tmps.getD p undef = .pointer (some ⟨g,0,none⟩)) (hg:w.heap[g]? = some (.cells cs t fr))
  (hu:P.underlying ty=some d) (hd:(match d with | .struct _ | .array _ _=>true | _=>false)=true) (hi:(P.info? ty).map (·.size)=some cs.size)
  (hp2:tmps.getD q undef = .pointer (some ⟨g2,0,none⟩)) (hg2:w.heap[g2]? = some (.cells cs2 t2 fr2))
  (hu2:P.underlying ty2=some d2) (hd2:(match d2 with | .struct _ | .array _ _=>true | _=>false)=true) (hi2:(P.info? ty2).map (·.size)=some cs2.size) :
  (results fn tmps).run P w = .ok (.tuple #[.agg cs,.agg cs2,tmps.getD u undef]) w:=by
 have hp':tmps[p]?.getD undef = .pointer (some ⟨g,0,none⟩):=by simpa using hp
 have hp2':tmps[q]?.getD undef = .pointer (some ⟨g2,0,none⟩):=by simpa using hp2
 simp [results,h,hp',hp2',asAddr,run_loadVar_row w g t ty cs fr d hg hu hd hi,run_loadVar_row w g2 t2 ty2 cs2 fr2 d2 hg2 hu2 hd2 hi2]
def headZ:Value:=.agg #[.int .i64 0,.string ⟨#[]⟩,.string ⟨#[]⟩,.string ⟨#[]⟩]
def curZ:Value:=.agg #[.string ⟨#[]⟩,.int .i64 0,.int .i64 0,.int .i64 0,.slice none 0 0,.map none]
def ReadR (w:World) (s:ByteArray) (l:List UInt8) (e:Ending) (w':World):Prop :=
 Nx w w'∧(((wholeT l).1≠0∧e = .returned (.tuple #[headZ,curZ,.int .i64 ((wholeT l).1:Nat)])) ∨
  ((wholeT l).1=0∧∃ (K:Int) (N A C:ByteArray) (o:Int) (v:Value) (sb:Nat),e = .returned (.tuple #[.agg #[.int .i64 K,.string N,.string A,.string C],.agg #[.string s,.int .i64 o,.int .i64 0,.int .i64 (depthT (wholeT l).2:Nat),v,.map (some sb)],.int .i64 0]) ∧
   HeadIs (wholeT l).2 K N A C∧OwnN w' w.heap.size v (nmB (wholeT l).2)))
theorem Blk.put6 {w:World} {B g:Nat} {T:TypeId} {a0 a1 a2 a3 a4 a5 v0 v1 v2 v3 v4 v5:Value} (h:Blk w B g #[a0,a1,a2,a3,a4,a5] T) :
  Blk ((((((w.setCell ⟨g,0,none⟩ v0).setCell ⟨g,1,none⟩ v1).setCell ⟨g,2,none⟩ v2).setCell ⟨g,3,none⟩ v3).setCell ⟨g,4,none⟩ v4).setCell ⟨g,5,none⟩ v5) B g #[v0,v1,v2,v3,v4,v5] T :=
 (((((h.put 0 v0).put 1 v1).put 2 v2).put 3 v3).put 4 v4).put 5 v5
theorem Blk.other4 {w:World} {B g k:Nat} {cs:Array Value} {T:TypeId} {v0 v1 v2 v3:Value} (h:Blk w B g cs T) (hk:k≠g):Blk ((((w.setCell ⟨k,0,none⟩ v0).setCell ⟨k,1,none⟩ v1).setCell ⟨k,2,none⟩ v2).setCell ⟨k,3,none⟩ v3) B g cs T :=
 (((h.other hk 0 v0).other hk 1 v1).other hk 2 v2).other hk 3 v3
theorem Blk.other6 {w:World} {B g k:Nat} {cs:Array Value} {T:TypeId} {v0 v1 v2 v3 v4 v5:Value} (h:Blk w B g cs T) (hk:k≠g):Blk ((((((w.setCell ⟨k,0,none⟩ v0).setCell ⟨k,1,none⟩ v1).setCell ⟨k,2,none⟩ v2).setCell ⟨k,3,none⟩ v3).setCell ⟨k,4,none⟩ v4).setCell ⟨k,5,none⟩ v5) B g cs T :=
 (((((h.other hk 0 v0).other hk 1 v1).other hk 2 v2).other hk 3 v3).other hk 4 v4).other hk 5 v5
theorem Nx.put4 {w w':World} {g:Nat} {v0 v1 v2 v3:Value} (h:Nx w w') (hg:w.heap.size≤g):Nx w ((((w'.setCell ⟨g,0,none⟩ v0).setCell ⟨g,1,none⟩ v1).setCell ⟨g,2,none⟩ v2).setCell ⟨g,3,none⟩ v3):=(((h.put' hg 0 v0).put' hg 1 v1).put' hg 2 v2).put' hg 3 v3
theorem Nx.put6 {w w':World} {g:Nat} {v0 v1 v2 v3 v4 v5:Value} (h:Nx w w') (hg:w.heap.size≤g):Nx w ((((((w'.setCell ⟨g,0,none⟩ v0).setCell ⟨g,1,none⟩ v1).setCell ⟨g,2,none⟩ v2).setCell ⟨g,3,none⟩ v3).setCell ⟨g,4,none⟩ v4).setCell ⟨g,5,none⟩ v5) :=
 (((((h.put' hg 0 v0).put' hg 1 v1).put' hg 2 v2).put' hg 3 v3).put' hg 4 v4).put' hg 5 v5
end Go.Proofs.YtpfecpcgdfbekaaGreatDoor
