/- Reading goes on from left to right. Plain lemmas. The contract of atConstant. -/
import Derived.Test.YtpbjkgpdkopgmaaGreatDoorG20
import Derived.Test.YtpbjkgpdkopgmaaGreatDoorG22
import Derived.Deep.RegionWith
set_option linter.unusedVariables false
set_option linter.unusedSimpArgs false
set_option linter.unnecessarySimpa false
namespace Go.Proofs.YtpbjkgpdkopgmaaGreatDoor
def Mo (s s':PSt):Prop:=s.i≤s'.i∧(s.e≠0→s'.e≠0)
def Adv (s s':PSt):Prop:=s'.e≠0∨s.i<s'.i
theorem Mo.refl (s:PSt):Mo s s:=⟨Nat.le_refl _,id⟩
theorem Mo.trans {a b c:PSt} (h:Mo a b) (k:Mo b c):Mo a c:=⟨Nat.le_trans h.1 k.1,fun e=>k.2 (h.2 e)⟩
theorem Adv.mo {a b c:PSt} (h:Adv a b) (k:Mo b c):Adv a c:=by
 rcases h with h | h
 ·exact .inl (k.2 h)
 ·exact .inr (Nat.lt_of_lt_of_le h k.1)
theorem Mo.adv {a b c:PSt} (h:Mo a b) (k:b.e=0→Adv b c) (hm:Mo b c):Adv a c:=by
 by_cases he:b.e=0
 ·rcases k he with k | k
  ·exact .inl k
  ·exact .inr (Nat.lt_of_le_of_lt h.1 k)
 ·exact .inl (hm.2 he)
theorem mo_next (s:PSt):Mo s (nextP s):=by
 unfold nextP;split
 ·exact Mo.refl _
 ·exact ⟨Nat.le_succ _,id⟩
theorem adv_next (s:PSt) (he:s.e=0):Adv s (nextP s):=by
 unfold nextP;rw [if_neg (by simpa using he)];exact .inr (Nat.lt_succ_self _)
theorem mo_fail (k:Nat) (hk:k≠0) (s:PSt):Mo s (failP k s):=by
 unfold failP;split
 ·exact Mo.refl _
 ·exact ⟨Nat.le_refl _,fun _=>hk⟩
theorem adv_fail (k:Nat) (hk:k≠0) (s:PSt):Adv s (failP k s):=.inl (fail_ne k hk s)
section
variable (ws:List TokV)
theorem mo_take (t:List UInt8) (s:PSt):Mo s (takeP ws t s):=by
 unfold takeP;split
 ·exact mo_next _
 ·exact Mo.refl _
theorem mo_need (t:List UInt8) (s:PSt):Mo s (needP ws t s):=by
 unfold needP;split
 ·exact mo_next _
 ·exact mo_fail 2 (by decide) _
theorem adv_need (t:List UInt8) (s:PSt) (he:s.e=0):Adv s (needP ws t s):=by
 unfold needP;split
 ·exact adv_next _ he
 ·exact adv_fail 2 (by decide) _
theorem mo_sep (s:PSt):Mo s (sepP ws s):=by
 unfold sepP;split
 ·exact mo_next _
 ·exact mo_take ws _ _
theorem mo_plainN (s:PSt):Mo s (plainN ws s).2:=by
 unfold plainN;dsimp only;split
 ·exact mo_next _
 ·exact (mo_fail 2 (by decide) _).trans (mo_next _)
theorem adv_plainN (s:PSt) (he:s.e=0):Adv s (plainN ws s).2:=by
 unfold plainN;dsimp only;split
 ·exact adv_next _ he
 ·exact (adv_fail 2 (by decide) _).mo (mo_next _)
theorem mo_qualN (s:PSt):Mo s (qualN ws s).2:=by
 unfold qualN;dsimp only;split
 ·exact mo_next _
 ·exact (mo_fail 2 (by decide) _).trans (mo_next _)
theorem mo_add {α:Type} (most:Nat) (rd:PSt→α×PSt) (hm:∀ s,Mo s (rd s).2) (acc:List α) (s:PSt):Mo s (addP most rd acc s).2:=by
 unfold addP;split
 ·exact mo_fail 4 (by decide) _
 ·exact hm s
theorem mo_elems {α:Type} (p:PSt→Bool) (most:Nat) (rd:PSt→α×PSt) (hm:∀ s,Mo s (rd s).2):∀ (n:Nat) (acc:List α) (s:PSt),Mo s (elemsP ws p most rd n acc s).2
 | 0,_,s=>Mo.refl s
 | n+1,acc,s=>by
  unfold elemsP
  split
  ·exact ((mo_add most rd hm acc s).trans (mo_sep ws _)).trans (mo_elems p most rd hm n _ _)
  ·exact Mo.refl s
theorem mo_leaf (s:PSt):Mo s (leafP ws s).2:=by
 unfold leafP;repeat' split
 ·exact mo_next _
 ·exact mo_next _
 ·exact mo_fail 2 (by decide) _
theorem adv_leaf (s:PSt) (he:s.e=0):Adv s (leafP ws s).2:=by
 unfold leafP;repeat' split
 ·exact adv_next _ he
 ·exact adv_next _ he
 ·exact adv_fail 2 (by decide) _
theorem mo_type:∀ (r:Nat) (s:PSt),Mo s (typeP ws r s).2
 | 0,s=>by
  unfold typeP;split
  ·exact mo_fail 6 (by decide) _
  ·exact mo_leaf ws s
 | r+1,s=>by
  have ih:=mo_type r
  unfold typeP;dsimp only;repeat' split
  ·exact (((mo_next s).trans (mo_need ws _ _)).trans (ih _)).trans (mo_need ws _ _)
  ·exact (((mo_next s).trans (mo_need ws _ _)).trans (ih _)).trans (mo_need ws _ _)
  ·exact (((((mo_next s).trans (mo_need ws _ _)).trans (ih _)).trans (mo_need ws _ _)).trans (ih _)).trans (mo_need ws _ _)
  ·exact mo_leaf ws s
theorem adv_type (r:Nat) (s:PSt) (he:s.e=0):Adv s (typeP ws r s).2:=by
 cases r with
 | zero =>
  unfold typeP;split
  ·exact adv_fail 6 (by decide) _
  ·exact adv_leaf ws s he
 | succ r =>
  have ih:=mo_type ws r
  unfold typeP;dsimp only;repeat' split
  ·exact (adv_next s he).mo (((mo_need ws _ _).trans (ih _)).trans (mo_need ws _ _))
  ·exact (adv_next s he).mo (((mo_need ws _ _).trans (ih _)).trans (mo_need ws _ _))
  ·exact (adv_next s he).mo (((((mo_need ws _ _).trans (ih _)).trans (mo_need ws _ _)).trans (ih _)).trans (mo_need ws _ _))
  ·exact adv_leaf ws s he
theorem mo_pair (item:PSt→Con×PSt) (hm:∀ s,Mo s (item s).2) (s:PSt):Mo s (pairP ws item s).2:=by
 unfold pairP;dsimp only
 exact ((hm s).trans (mo_need ws _ _)).trans (hm _)
theorem mo_con:∀ (r:Nat) (s:PSt),Mo s (conP ws r s).2
 | 0,s=>by
  unfold conP;repeat' split
  ·exact mo_fail 2 (by decide) _
  ·exact mo_next _
  ·exact mo_fail 6 (by decide) _
 | r+1,s=>by
  have ih:=mo_con r
  unfold conP;dsimp only;repeat' split
  ·exact mo_fail 2 (by decide) _
  ·exact mo_next _
  ·exact ((mo_next s).trans (mo_elems ws _ _ _ ih _ _ _)).trans (mo_need ws _ _)
  ·exact ((mo_need ws _ s).trans (mo_elems ws _ _ _ (mo_pair ws _ ih) _ _ _)).trans (mo_need ws _ _)
theorem adv_con (r:Nat) (s:PSt) (he:s.e=0):Adv s (conP ws r s).2:=by
 cases r with
 | zero =>
  unfold conP;repeat' split
  ·exact adv_fail 2 (by decide) _
  ·exact adv_next _ he
  ·exact adv_fail 6 (by decide) _
 | succ r =>
  have ih:=mo_con ws r
  unfold conP;dsimp only;repeat' split
  ·exact adv_fail 2 (by decide) _
  ·exact adv_next _ he
  ·exact (adv_next s he).mo ((mo_elems ws _ _ _ ih _ _ _).trans (mo_need ws _ _))
  ·exact (adv_need ws _ s he).mo ((mo_elems ws _ _ _ (mo_pair ws _ ih) _ _ _).trans (mo_need ws _ _))
theorem adv_pair (r:Nat) (s:PSt) (he:s.e=0):Adv s (pairP ws (conP ws r) s).2:=by
 unfold pairP;dsimp only
 exact (adv_con ws r s he).mo ((mo_need ws _ _).trans (mo_con ws r _))
theorem mo_req (s:PSt):Mo s (reqN ws s):=by
 unfold reqN;split
 ·exact mo_next _
 ·exact mo_take ws _ _
theorem mo_if {b:Bool} {s s1 s2:PSt} (h1:Mo s s1) (h2:Mo s s2):Mo s (if b=true then s1 else s2):=by
 cases b
 ·exact h2
 ·exact h1
theorem mo_if2 {α:Type} {b:Bool} {s:PSt} {r1 r2:α×PSt} (h1:Mo s r1.2) (h2:Mo s r2.2):Mo s (if b=true then r1 else r2).2:=by
 cases b
 ·exact h2
 ·exact h1
theorem mo_field (s:PSt):Mo s (fieldP ws s).2:=by
 have ht:=mo_type ws 12
 have hc:=mo_con ws 12
 unfold fieldP
 generalize typeP ws 12=tp at *
 generalize conP ws 12=cp at *
 dsimp only
 have h1:Mo s (if decide ((wordP ws s).k=2)=true then needP ws [58] (nextP s) else s):=mo_if ((mo_next s).trans (mo_need ws _ _)) (Mo.refl s)
 generalize (if decide ((wordP ws s).k=2)=true then needP ws [58] (nextP s) else s)=s1 at *
 have h2:=h1.trans (mo_req ws s1)
 generalize reqN ws s1=s2 at *
 have h3:=h2.trans (ht s2)
 generalize (tp s2).2=s3 at *
 have h4:=h3.trans (mo_plainN ws s3)
 generalize (plainN ws s3).2=s4 at *
 exact h4.trans (mo_if2 ((mo_next _).trans (hc _)) (Mo.refl _))
theorem adv_field (s:PSt) (he:s.e=0):Adv s (fieldP ws s).2:=by
 have ht:=mo_type ws 12
 have ha:=adv_type ws 12
 have hc:=mo_con ws 12
 unfold fieldP
 generalize typeP ws 12=tp at *
 generalize conP ws 12=cp at *
 dsimp only
 have h1:Mo s (if decide ((wordP ws s).k=2)=true then needP ws [58] (nextP s) else s):=mo_if ((mo_next s).trans (mo_need ws _ _)) (Mo.refl s)
 generalize (if decide ((wordP ws s).k=2)=true then needP ws [58] (nextP s) else s)=s1 at *
 have h2:=h1.trans (mo_req ws s1)
 generalize reqN ws s1=s2 at *
 have h3:=h2.adv (ha s2) (ht s2)
 generalize (tp s2).2=s3 at *
 have h4:=h3.mo (mo_plainN ws s3)
 generalize (plainN ws s3).2=s4 at *
 exact h4.mo (mo_if2 ((mo_next _).trans (hc _)) (Mo.refl _))
theorem mo_fields (o c:UInt8) (s:PSt):Mo s (fieldsP ws o c s).2:=by
 unfold fieldsP;dsimp only
 exact ((mo_need ws _ s).trans (mo_elems ws _ _ _ (mo_field ws) _ _ _)).trans (mo_need ws _ _)
theorem mo_mem (s:PSt):Mo s (memP ws s).2:=by
 unfold memP;dsimp only
 refine (mo_plainN ws s).trans ?_
 repeat' split
 ·exact (mo_next _).trans (mo_next _)
 ·exact ((mo_next _).trans (mo_fail 2 (by decide) _)).trans (mo_next _)
 ·exact Mo.refl _
theorem adv_mem (s:PSt) (he:s.e=0):Adv s (memP ws s).2:=by
 unfold memP;dsimp only
 refine (adv_plainN ws s he).mo ?_
 repeat' split
 ·exact (mo_next _).trans (mo_next _)
 ·exact ((mo_next _).trans (mo_fail 2 (by decide) _)).trans (mo_next _)
 ·exact Mo.refl _
theorem met_tail (s1:PSt):Mo s1 (if isP ws kThrows s1=true then fieldsP ws 40 41 (nextP s1) else ([],s1)).2:=by
 split
 ·exact (mo_next _).trans (mo_fields ws _ _ _)
 ·exact Mo.refl _
theorem mo_met (s:PSt):Mo s (metP ws s).2:=by
 unfold metP;dsimp only
 have h1:∀ s1,Mo s1 (if isP ws kVoid s1=true then ((wordP ws s1).t,nextP s1) else typeP ws 12 s1).2:=fun s1=>by
  split
  ·exact mo_next _
  ·exact mo_type ws 12 _
 exact ((((mo_take ws _ s).trans (h1 _)).trans (mo_plainN ws _)).trans (mo_fields ws _ _ _)).trans (met_tail ws _)
theorem adv_met (s:PSt) (he:s.e=0):Adv s (metP ws s).2:=by
 unfold metP;dsimp only
 have h1:∀ s1,Mo s1 (if isP ws kVoid s1=true then ((wordP ws s1).t,nextP s1) else typeP ws 12 s1).2:=fun s1=>by
  split
  ·exact mo_next _
  ·exact mo_type ws 12 _
 have h2:∀ s1:PSt,s1.e=0→Adv s1 (if isP ws kVoid s1=true then ((wordP ws s1).t,nextP s1) else typeP ws 12 s1).2:=fun s1 he=>by
  split
  ·exact adv_next _ he
  ·exact adv_type ws 12 _ he
 exact ((mo_take ws _ s).adv (h2 _) (h1 _)).mo (((mo_plainN ws _).trans (mo_fields ws _ _ _)).trans (met_tail ws _))
theorem mo_body (k:Nat) (nm ty:List UInt8) (s:PSt):Mo s (bodyP ws k nm ty s).2:=by
 unfold bodyP;dsimp only
 split
 ·exact (mo_need ws _ s).trans (mo_con ws 12 _)
 ·split
  ·exact ((mo_need ws _ s).trans (mo_elems ws _ _ _ (mo_mem ws) _ _ _)).trans (mo_need ws _ _)
  ·split
   ·exact mo_fields ws _ _ s
   ·split
    ·have h1:Mo s (if isP ws kExtends s=true then qualN ws (nextP s) else ([],s)).2:=by
      split
      ·exact (mo_next _).trans (mo_qualN ws _)
      ·exact Mo.refl _
     exact ((h1.trans (mo_need ws _ _)).trans (mo_elems ws _ _ _ (mo_met ws) _ _ _)).trans (mo_need ws _ _)
    ·exact Mo.refl s
theorem def_tail (k:Nat) (s1:PSt):Mo s1 (if k=1∨k=3 then typeP ws 12 s1 else ([],s1)).2:=by
 split
 ·exact mo_type ws 12 _
 ·exact Mo.refl _
theorem adv_def (s:PSt) (he:s.e=0):Adv s (defP ws s).2:=by
 unfold defP;dsimp only
 exact (adv_next s he).mo (((def_tail ws _ _).trans (mo_plainN ws _)).trans (mo_body ws _ _ _ _))
theorem adv_inc (s:PSt) (he:s.e=0):Adv s (incP ws s).2:=by
 unfold incP;dsimp only
 split
 ·exact (adv_next s he).mo (mo_next _)
 ·exact (adv_next s he).mo (mo_fail 2 (by decide) _)
theorem adv_spc (s:PSt) (he:s.e=0):Adv s (spcP ws s).2:=by
 unfold spcP;dsimp only
 have h1:∀ s1,Mo s1 (if isP ws [42] s1=true then ((wordP ws s1).t,nextP s1) else qualN ws s1).2:=fun s1=>by
  split
  ·exact mo_next _
  ·exact mo_qualN ws _
 exact (adv_next s he).mo ((h1 _).trans (mo_qualN ws _))
theorem word_e {s:PSt} (h:(wordP ws s).k≠0):s.e=0:=by
 rcases Nat.eq_zero_or_pos s.e with h1 | h1
 ·exact h1
 ·unfold wordP at h
  rw [if_pos (by omega)] at h
  exact absurd rfl h
theorem is_e {t:List UInt8} {s:PSt} (h:isP ws t s=true):s.e=0:=by
 apply word_e ws
 unfold isP at h
 simp at h
 omega
theorem name_e {s:PSt} (h:atNameP ws s=true):s.e=0:=by
 apply word_e ws
 unfold atNameP at h
 simp at h
 omega
theorem con_e {s:PSt} (h:atConP ws s=true):s.e=0:=by
 apply word_e ws
 intro h0
 unfold atConP at h
 dsimp only at h
 rw [h0] at h
 simp at h
 unfold isP at h
 rw [h0] at h
 simp at h
theorem type_e {s:PSt} (h:atTypeP ws s=true):s.e=0:=by
 unfold atTypeP at h
 simp at h
 exact name_e ws h.1
theorem field_e {s:PSt} (h:atFieldP ws s=true):s.e=0:=by
 unfold atFieldP at h
 simp only [Bool.or_eq_true,decide_eq_true_eq] at h
 rcases h with ((h | h) | h) | h
 ·exact word_e ws (by omega)
 ·exact is_e ws h
 ·exact is_e ws h
 ·exact type_e ws h
theorem met_e {s:PSt} (h:atMetP ws s=true):s.e=0:=by
 unfold atMetP at h
 simp only [Bool.or_eq_true] at h
 rcases h with (h | h) | h
 ·exact is_e ws h
 ·exact is_e ws h
 ·exact type_e ws h
theorem plain_e {s:PSt} (h:atPlainP ws s=true):s.e=0:=by
 unfold atPlainP at h
 simp at h
 exact name_e ws h.1
theorem def_e {s:PSt} (h:atDefP ws s=true):s.e=0:=by
 unfold atDefP at h
 simp at h
 exact name_e ws h.1
theorem prog_con (r:Nat):Prog ws (atConP ws) (conP ws r):=fun s _ h=>⟨con_e ws h,adv_con ws r s (con_e ws h)⟩
theorem prog_pair (r:Nat):Prog ws (atConP ws) (pairP ws (conP ws r)):=fun s _ h=>⟨con_e ws h,adv_pair ws r s (con_e ws h)⟩
theorem prog_field:Prog ws (atFieldP ws) (fieldP ws):=fun s _ h=>⟨field_e ws h,adv_field ws s (field_e ws h)⟩
theorem prog_mem:Prog ws (atPlainP ws) (memP ws):=fun s _ h=>⟨plain_e ws h,adv_mem ws s (plain_e ws h)⟩
theorem prog_met:Prog ws (atMetP ws) (metP ws):=fun s _ h=>⟨met_e ws h,adv_met ws s (met_e ws h)⟩
theorem prog_def:Prog ws (atDefP ws) (defP ws):=fun s _ h=>⟨def_e ws h,adv_def ws s (def_e ws h)⟩
theorem prog_inc:Prog ws (isP ws kInclude) (incP ws):=fun s _ h=>⟨is_e ws h,adv_inc ws s (is_e ws h)⟩
theorem prog_spc:Prog ws (isP ws kNamespace) (spcP ws):=fun s _ h=>⟨is_e ws h,adv_spc ws s (is_e ws h)⟩
end
end Go.Proofs.YtpbjkgpdkopgmaaGreatDoor
namespace Go.Proofs.YtpbjkgpdkopgmaaGreatDoor
open Go.RowKit
theorem PC.apart {w w':World} {b c g:Nat} {A:Option Addr} {ws:List TokV} {s:PSt} (h:PC w b A c ws s) (ho:Oth g w w') (hb:b<g):PC w' b A c ws s:=by
 have h1:=h.b1
 have h2:=h.b2
 refine ⟨ho.blk h.cur (by omega),fun h0=>?_,h.ab,h.le,h.tab.oth ho (by omega),ho.maxC h.mx (by omega),h.b1,h.b2,h.fin,h.lt,h.el⟩
 obtain ⟨g',e,hg,hc⟩:=h.rd h0
 refine ⟨g',e,Nat.lt_of_lt_of_le hg ho.size,fun i hi j hj=>?_⟩
 rw [← hc i hi j hj]
 have hgb:=h.ab g' e
 unfold World.cell?
 simp only
 rw [ho.block g' hg (by omega)]
theorem Oth.apart {w w1 w':World} {b g:Nat} (h:Oth b w w1) (ho:Oth g w1 w') (hg:w.heap.size≤g):Oth b w w' :=
 ⟨ho.os.trans h.os,ho.tape.trans h.tape,ho.output.trans h.output,Nat.le_trans h.size ho.size,fun k hk hb=>(ho.block k (Nat.lt_of_lt_of_le hk h.size) (by omega)).trans (h.block k hk hb)⟩
section
variable {w:World} {b c:Nat} {A:Option Addr} {ws:List TokV} {s:PSt}
set_option maxRecDepth 100000 in
set_option maxHeartbeats 3200000 in
theorem atCon_any (h0:PC w b A c ws s) (B:Bool) (hB:atConP ws s=B) :
  Calls Tryz.prog 147 #[.pointer (some ⟨b,0,none⟩)] w fun e w'=>e = .returned (.bool B)∧Nx w w':=by
 have H:=Lib.hid h0
 have htx:=h0.fin.word s
 obtain ⟨⟨tk,tt,tn,td,tp⟩,hT⟩:∃ T,Hid (wordP ws s=T):=⟨_,rfl⟩
 rw [hT.out] at htx
 have HTX:Hid ((tt.length:Int)≤8000):=by unfold Hid;have:((tt.length:Nat):Int)≤2000:=htx;omega
 obtain ⟨B1,hB1⟩:∃ B,Hid (isP ws kTrue s=B):=⟨_,rfl⟩
 obtain ⟨B2,hB2⟩:∃ B,Hid (isP ws kFalse s=B):=⟨_,rfl⟩
 obtain ⟨B3,hB3⟩:∃ B,Hid (isP ws [91] s=B):=⟨_,rfl⟩
 obtain ⟨B4,hB4⟩:∃ B,Hid (isP ws [123] s=B):=⟨_,rfl⟩
 obtain ⟨Q,hQ⟩:∃ B,Hid (qualP tt=B):=⟨_,rfl⟩
 have HB:Hid ((if tk=2∨tk=3∨tk=4 then true else if tk=1 then B1 || B2 || Q else B3 || B4)=B):=by
  unfold Hid;rw [← hB];unfold atConP;dsimp only;rw [hT.out,hB1.out,hB2.out,hB3.out,hB4.out,hQ.out]
 clear h0 hB htx
 go_enter Tryz.func147,Tryz.ntmps147
 go_wp2_with fail
 refine (word_any' H.out _ _ _ _ _ hT.out).mono ?_;rintro e w1 ⟨rfl,hn1⟩
 obtain ⟨g1,hg1⟩:∃ g,w1.heap.size=g:=⟨_,rfl⟩
 have hBk:=Blk.new w1 #[.int .i64 (tk:Int),.string ⟨tt.toArray⟩,.int .i64 tn,.int .u64 (td:Int),.int .i64 (tp:Int)] 92
 rw [hg1] at hBk
 have hn2:=hn1.trans (nx0 w1 (.cells #[.int .i64 (tk:Int),.string ⟨tt.toArray⟩,.int .i64 tn,.int .u64 (td:Int),.int .i64 (tp:Int)] 92))
 have HB1:=Lib.hid hBk
 have HN2:=Lib.hid hn2
 clear hBk hn2 hn1
 go_upto_region 2 with (fail)
 generalize World.alloc _ _=w2 at *
 have c0:w2.cell? ⟨g1,0,none⟩=some (.int .i64 (tk:Int)):=HB1.out.cell 0
 have HP2:=Lib.hid (H.out.nx HN2.out)
 clear hg1
 by_cases h2:tk=2
 ·subst h2
  obtain rfl:true=B:=HB.out
  go_wp2_with fail
  go_ret
  exact ⟨rfl,HN2.out⟩
 by_cases h3:tk=3
 ·subst h3
  obtain rfl:true=B:=HB.out
  clear h2
  go_wp2_with fail
  go_ret
  exact ⟨rfl,HN2.out⟩
 by_cases h4:tk=4
 ·subst h4
  obtain rfl:true=B:=HB.out
  clear h2 h3
  go_wp2_with fail
  go_ret
  exact ⟨rfl,HN2.out⟩
 by_cases h1:tk=1
 ·subst h1
  have HBB:Hid ((B1 || B2 || Q)=B):=HB.out
  clear h2 h3 h4 HB
  go_wp2_with fail
  refine (is_any HP2.out _ kTrue (Tx.of _) B1 hB1.out).mono ?_;rintro e w3 ⟨rfl,hn3⟩
  have HN3:=Lib.hid (HN2.out.trans hn3)
  have HP3:=Lib.hid (HP2.out.nx hn3)
  have HB3:=Lib.hid (HB1.out.below hn3)
  clear hn3 c0
  cases B1
  ·go_wp2_with fail
   refine (is_any HP3.out _ kFalse (Tx.of _) B2 hB2.out).mono ?_;rintro e w4 ⟨rfl,hn4⟩
   have HN4:=Lib.hid (HN3.out.trans hn4)
   have HP4:=Lib.hid (HP3.out.nx hn4)
   have c1:w4.cell? ⟨g1,1,none⟩=some (.string ⟨tt.toArray⟩):=(HB3.out.below hn4).cell 1
   clear hn4
   cases B2
   ·have HQ:Hid (Q=B):=HBB.out
    go_wp2_with fail
    refine (qual_any w4 _ tt (Tx.of tt) Q hQ.out HTX.out HP4.out.tab HP4.out.mx).mono ?_;rintro e w5 ⟨rfl,hn5⟩
    go_wp2_with fail
    go_ret
    rw [HQ.out]
    exact ⟨rfl,HN4.out.trans hn5⟩
   ·obtain rfl:true=B:=HBB.out
    go_wp2_with fail
    go_ret
    exact ⟨rfl,HN4.out⟩
  ·obtain rfl:true=B:=HBB.out
   go_wp2_with fail
   go_ret
   exact ⟨rfl,HN3.out⟩
 ·have HBB:Hid ((B3 || B4)=B):=by unfold Hid;rw [← HB.out,if_neg (by omega),if_neg h1]
  have b1:((tk:Int) == 1)=false:=by rw [beq_eq_false_iff_ne];omega
  have b2:((tk:Int) == 2)=false:=by rw [beq_eq_false_iff_ne];omega
  have b3:((tk:Int) == 3)=false:=by rw [beq_eq_false_iff_ne];omega
  have b4:((tk:Int) == 4)=false:=by rw [beq_eq_false_iff_ne];omega
  clear h1 h2 h3 h4 HB
  go_wp2_with fail
  refine (is_any HP2.out _ [91] (Tx.of _) B3 hB3.out).mono ?_;rintro e w3 ⟨rfl,hn3⟩
  have HN3:=Lib.hid (HN2.out.trans hn3)
  have HP3:=Lib.hid (HP2.out.nx hn3)
  clear hn3 c0
  cases B3
  ·go_wp2_with fail
   refine (is_any HP3.out _ [123] (Tx.of _) B4 hB4.out).mono ?_;rintro e w4 ⟨rfl,hn4⟩
   have HQ:Hid (B4=B):=HBB.out
   go_wp2_with fail
   go_ret
   rw [HQ.out]
   exact ⟨rfl,HN3.out.trans hn4⟩
  ·obtain rfl:true=B:=HBB.out
   go_wp2_with fail
   go_ret
   exact ⟨rfl,HN3.out⟩
end
def ConC (b c:Nat) (A:Option Addr) (ws:List TokV) (r:Nat):Prop :=
 ∀ (w:World) (s:PSt),PC w b A c ws s→∀ (D:Nat),D+r=13→∀ (y:Con) (s':PSt),conP ws r s=(y,s') →
  Calls Tryz.prog 99 #[.pointer (some ⟨b,0,none⟩),.int .i64 (D:Int)] w fun e w'=>∃ x,e = .returned (vluC x)∧RC (r+1) w' (Fm w.heap.size) x y∧PC w' b A c ws s'∧Oth b w w'
structure BoxC (b g2 g3 D:Nat) (w:World):Prop where
 k2:Blk w 0 g2 #[.pointer (some ⟨b,0,none⟩)] 127
 k3:Blk w 0 g3 #[.int .i64 (D:Int)] 3
 n2:g2≠b
 n3:g3≠b
theorem BoxC.stays {b g2 g3 D:Nat}:Stays b (BoxC b g2 g3 D):=fun w w' h ho=>⟨ho.blk h.k2 h.n2,ho.blk h.k3 h.n3,h.n2,h.n3⟩
set_option maxRecDepth 100000 in
set_option maxHeartbeats 3200000 in
theorem item_any {b c:Nat} {A:Option Addr} {ws:List TokV} {r g2 g3 D:Nat} (hC:ConC b c A ws r) (hD:D+1+r=13) :
  ReadC vluC (RC (r+1)) b c A ws (BoxC b g2 g3 D) 194 #[.pointer (some ⟨g2,0,none⟩),.pointer (some ⟨g3,0,none⟩)] (fun _=>true) (conP ws r):=by
 intro w s h0 hE _ y s' hr
 have H:=Lib.hid h0
 have HE:=Lib.hid hE
 have HR:=Lib.hid hr
 have HC:=Lib.hid hC
 have HD:=Lib.hid hD
 have hDI:(D:Int)≤12:=by omega
 obtain ⟨g0,hg0⟩:∃ g,w.heap.size=g:=⟨_,rfl⟩
 have HG0:Hid (w.heap.size≤g0):=Nat.le_of_eq hg0
 have hB0:=Blk.new w #[.int .i64 0,.int .i64 0,.int .u64 0,.string ⟨#[]⟩,.slice none 0 0] 68
 rw [hg0] at hB0
 have hN0:Nx w (w.alloc (.cells #[.int .i64 0,.int .i64 0,.int .u64 0,.string ⟨#[]⟩,.slice none 0 0] 68)):=nx0 _ _
 have c2:(w.alloc (.cells #[.int .i64 0,.int .i64 0,.int .u64 0,.string ⟨#[]⟩,.slice none 0 0] 68)).cell? ⟨g2,0,none⟩=some (.pointer (some ⟨b,0,none⟩)):=(hE.k2.below hN0).cell 0
 have c3:(w.alloc (.cells #[.int .i64 0,.int .i64 0,.int .u64 0,.string ⟨#[]⟩,.slice none 0 0] 68)).cell? ⟨g3,0,none⟩=some (.int .i64 (D:Int)):=(hE.k3.below hN0).cell 0
 have HB0:=Lib.hid hB0
 have HN0:=Lib.hid hN0
 have hg0b:g0≠b:=by have:=h0.bw;omega
 have hbg0:b<g0:=by have:=h0.bw;omega
 have HGB:=Lib.hid hg0b
 clear h0 hE hr hC hD hB0 hN0 hg0b
 go_enter Tryz.func194,Tryz.ntmps194
 go_wp2_with fail
 refine (HC.out _ s (H.out.nx HN0.out) (D+1) HD.out y s' HR.out).mono ?_;rintro e w1 ⟨⟨xk,xn,xd,xs,xl⟩,rfl,hr1,hp1,ho1⟩
 obtain ⟨xy,-,xh⟩:=RC.of hr1
 obtain ⟨xA,xc,-,rfl,-,-,-,-,-⟩:=xh.sl conA_size
 clear xh
 rw [show vluC ⟨xk,xn,xd,xs,.slice xA xy.length xc⟩ = .agg #[.int .i64 (xk:Int),.int .i64 xn,.int .u64 (xd:Int),.string ⟨xs.toArray⟩,.slice xA xy.length xc] from rfl]
 have HB1:=Lib.hid (ho1.blk HB0.out HGB.out)
 have HR1:=Lib.hid hr1
 have HP1:=Lib.hid hp1
 have HO1:=Lib.hid ((Oth.nx HN0.out).trans ho1)
 clear hr1 hp1 ho1 c2 c3
 obtain ⟨d0,d1,d2,d3,d4,e0,e1,e2,e3,e4⟩:=cellsP5 HB1.out
 go_wp2_with fail
 refine bodyPost_ret (results_cell_row rfl _ _ g0 _ _ _ _ rfl (HB1.out.put5).2 Tryz.underlying68 rfl (by kernel_rfl)) rfl ?_
 have HW:=(Oth.refl g0 w1).own (i:=0) (v:=.int .i64 (xk:Int)) |>.own (i:=1) (v:=.int .i64 xn) |>.own (i:=2) (v:=.int .u64 (xd:Int)) |>.own (i:=3) (v:=.string ⟨xs.toArray⟩) |>.own (i:=4) (v:=.slice xA xy.length xc)
 exact ⟨⟨xk,xn,xd,xs,.slice xA xy.length xc⟩,rfl,RC.lasts _ (Mv.oth HW HN0.out.size (by simp;omega)) HR1.out,HP1.out.apart HW (by omega),HO1.out.apart HW HG0.out⟩
theorem cellsP10 {w:World} {B g:Nat} {T:TypeId} {a0 a1 a2 a3 a4 a5 a6 a7 a8 a9:Value} (h:Blk w B g #[a0,a1,a2,a3,a4,a5,a6,a7,a8,a9] T) :
  w.cell? ⟨g,0,none⟩=some a0∧w.cell? ⟨g,1,none⟩=some a1∧w.cell? ⟨g,2,none⟩=some a2∧w.cell? ⟨g,3,none⟩=some a3∧w.cell? ⟨g,4,none⟩=some a4 ∧
  w.cell? ⟨g,5,none⟩=some a5∧w.cell? ⟨g,6,none⟩=some a6∧w.cell? ⟨g,7,none⟩=some a7∧w.cell? ⟨g,8,none⟩=some a8∧w.cell? ⟨g,9,none⟩=some a9 ∧
  w.frozen? ⟨g,0,none⟩=false∧w.frozen? ⟨g,1,none⟩=false∧w.frozen? ⟨g,2,none⟩=false∧w.frozen? ⟨g,3,none⟩=false∧w.frozen? ⟨g,4,none⟩=false ∧
  w.frozen? ⟨g,5,none⟩=false∧w.frozen? ⟨g,6,none⟩=false∧w.frozen? ⟨g,7,none⟩=false∧w.frozen? ⟨g,8,none⟩=false∧w.frozen? ⟨g,9,none⟩=false :=
 ⟨h.cell 0,h.cell 1,h.cell 2,h.cell 3,h.cell 4,h.cell 5,h.cell 6,h.cell 7,h.cell 8,h.cell 9,h.free 0,h.free 1,h.free 2,h.free 3,h.free 4,h.free 5,h.free 6,h.free 7,h.free 8,h.free 9⟩
theorem Blk.putP10 {w:World} {B g:Nat} {T:TypeId} {a0 a1 a2 a3 a4 a5 a6 a7 a8 a9 v0 v1 v2 v3 v4 v5 v6 v7 v8 v9:Value} (h:Blk w B g #[a0,a1,a2,a3,a4,a5,a6,a7,a8,a9] T) :
  Blk ((((((((((w.setCell ⟨g,0,none⟩ v0).setCell ⟨g,1,none⟩ v1).setCell ⟨g,2,none⟩ v2).setCell ⟨g,3,none⟩ v3).setCell ⟨g,4,none⟩ v4).setCell ⟨g,5,none⟩ v5).setCell ⟨g,6,none⟩ v6).setCell ⟨g,7,none⟩ v7).setCell ⟨g,8,none⟩ v8).setCell ⟨g,9,none⟩ v9) B g #[v0,v1,v2,v3,v4,v5,v6,v7,v8,v9] T:=by
 have h0:Blk (w.setCell ⟨g,0,none⟩ v0) B g #[v0,a1,a2,a3,a4,a5,a6,a7,a8,a9] T:=h.put 0 v0
 have h1:Blk ((w.setCell ⟨g,0,none⟩ v0).setCell ⟨g,1,none⟩ v1) B g #[v0,v1,a2,a3,a4,a5,a6,a7,a8,a9] T:=h0.put 1 v1
 have h2:Blk (((w.setCell ⟨g,0,none⟩ v0).setCell ⟨g,1,none⟩ v1).setCell ⟨g,2,none⟩ v2) B g #[v0,v1,v2,a3,a4,a5,a6,a7,a8,a9] T:=h1.put 2 v2
 have h3:Blk ((((w.setCell ⟨g,0,none⟩ v0).setCell ⟨g,1,none⟩ v1).setCell ⟨g,2,none⟩ v2).setCell ⟨g,3,none⟩ v3) B g #[v0,v1,v2,v3,a4,a5,a6,a7,a8,a9] T:=h2.put 3 v3
 have h4:Blk (((((w.setCell ⟨g,0,none⟩ v0).setCell ⟨g,1,none⟩ v1).setCell ⟨g,2,none⟩ v2).setCell ⟨g,3,none⟩ v3).setCell ⟨g,4,none⟩ v4) B g #[v0,v1,v2,v3,v4,a5,a6,a7,a8,a9] T:=h3.put 4 v4
 have h5:Blk ((((((w.setCell ⟨g,0,none⟩ v0).setCell ⟨g,1,none⟩ v1).setCell ⟨g,2,none⟩ v2).setCell ⟨g,3,none⟩ v3).setCell ⟨g,4,none⟩ v4).setCell ⟨g,5,none⟩ v5) B g #[v0,v1,v2,v3,v4,v5,a6,a7,a8,a9] T:=h4.put 5 v5
 have h6:Blk (((((((w.setCell ⟨g,0,none⟩ v0).setCell ⟨g,1,none⟩ v1).setCell ⟨g,2,none⟩ v2).setCell ⟨g,3,none⟩ v3).setCell ⟨g,4,none⟩ v4).setCell ⟨g,5,none⟩ v5).setCell ⟨g,6,none⟩ v6) B g #[v0,v1,v2,v3,v4,v5,v6,a7,a8,a9] T:=h5.put 6 v6
 have h7:Blk ((((((((w.setCell ⟨g,0,none⟩ v0).setCell ⟨g,1,none⟩ v1).setCell ⟨g,2,none⟩ v2).setCell ⟨g,3,none⟩ v3).setCell ⟨g,4,none⟩ v4).setCell ⟨g,5,none⟩ v5).setCell ⟨g,6,none⟩ v6).setCell ⟨g,7,none⟩ v7) B g #[v0,v1,v2,v3,v4,v5,v6,v7,a8,a9] T:=h6.put 7 v7
 have h8:Blk (((((((((w.setCell ⟨g,0,none⟩ v0).setCell ⟨g,1,none⟩ v1).setCell ⟨g,2,none⟩ v2).setCell ⟨g,3,none⟩ v3).setCell ⟨g,4,none⟩ v4).setCell ⟨g,5,none⟩ v5).setCell ⟨g,6,none⟩ v6).setCell ⟨g,7,none⟩ v7).setCell ⟨g,8,none⟩ v8) B g #[v0,v1,v2,v3,v4,v5,v6,v7,v8,a9] T:=h7.put 8 v8
 have h9:Blk ((((((((((w.setCell ⟨g,0,none⟩ v0).setCell ⟨g,1,none⟩ v1).setCell ⟨g,2,none⟩ v2).setCell ⟨g,3,none⟩ v3).setCell ⟨g,4,none⟩ v4).setCell ⟨g,5,none⟩ v5).setCell ⟨g,6,none⟩ v6).setCell ⟨g,7,none⟩ v7).setCell ⟨g,8,none⟩ v8).setCell ⟨g,9,none⟩ v9) B g #[v0,v1,v2,v3,v4,v5,v6,v7,v8,v9] T:=h8.put 9 v9
 exact h9
structure BoxP (b g2 g3 g5 D:Nat) (w:World):Prop where
 bx:BoxC b g2 g3 D w
 k5:Blk w 0 g5 #[.func (.func 194) #[] #[.pointer (some ⟨g2,0,none⟩),.pointer (some ⟨g3,0,none⟩)]] 243
 n5:g5≠b
theorem BoxP.stays {b g2 g3 g5 D:Nat}:Stays b (BoxP b g2 g3 g5 D):=fun w w' h ho=>⟨BoxC.stays _ _ h.bx ho,ho.blk h.k5 h.n5,h.n5⟩
set_option maxRecDepth 100000 in
set_option maxHeartbeats 6400000 in
theorem pair_any {b c:Nat} {A:Option Addr} {ws:List TokV} {r g2 g3 g5 D:Nat} (hC:ConC b c A ws r) (hD:D+1+r=13) :
  ReadC vluP (RPr (r+1)) b c A ws (BoxP b g2 g3 g5 D) 196 #[.pointer (some ⟨g5,0,none⟩),.pointer (some ⟨g2,0,none⟩)] (fun _=>true) (pairP ws (conP ws r)):=by
 intro w s h0 hE _ y s' hr
 have HIT:=Lib.hid (item_any (g2:=g2) (g3:=g3) hC hD)
 have H:=Lib.hid h0
 have HE:=Lib.hid hE
 have HR:=Lib.hid hr
 obtain ⟨g0,hg0⟩:∃ g,w.heap.size=g:=⟨_,rfl⟩
 have HG0:Hid (w.heap.size≤g0):=Nat.le_of_eq hg0
 have hB0:=Blk.new w #[.int .i64 0,.int .i64 0,.int .u64 0,.string ⟨#[]⟩,.slice none 0 0,.int .i64 0,.int .i64 0,.int .u64 0,.string ⟨#[]⟩,.slice none 0 0] 245
 rw [hg0] at hB0
 have hN0:Nx w (w.alloc (.cells #[.int .i64 0,.int .i64 0,.int .u64 0,.string ⟨#[]⟩,.slice none 0 0,.int .i64 0,.int .i64 0,.int .u64 0,.string ⟨#[]⟩,.slice none 0 0] 245)):=nx0 _ _
 have c5:(w.alloc (.cells #[.int .i64 0,.int .i64 0,.int .u64 0,.string ⟨#[]⟩,.slice none 0 0,.int .i64 0,.int .i64 0,.int .u64 0,.string ⟨#[]⟩,.slice none 0 0] 245)).cell? ⟨g5,0,none⟩=some (.func (.func 194) #[] #[.pointer (some ⟨g2,0,none⟩),.pointer (some ⟨g3,0,none⟩)]):=(hE.k5.below hN0).cell 0
 have HB0:=Lib.hid hB0
 have HN0:=Lib.hid hN0
 have HE1:=Lib.hid (BoxP.stays _ _ hE (Oth.nx hN0))
 have hg0b:g0≠b:=by have:=h0.bw;omega
 have hbg0:b<g0:=by have:=h0.bw;omega
 have HGB:=Lib.hid hg0b
 obtain ⟨⟨ya,sa⟩,hA⟩:∃ a,Hid (conP ws r s=a):=⟨_,rfl⟩
 obtain ⟨⟨yb,sb⟩,hB⟩:∃ a,Hid (conP ws r (needP ws [58] sa)=a):=⟨_,rfl⟩
 have hx:=HR.out
 unfold pairP at hx
 dsimp only at hx
 rw [hA.out,hB.out] at hx
 simp only [Prod.mk.injEq] at hx
 obtain ⟨rfl,rfl⟩:=hx
 clear h0 hE hr hC hD hB0 hN0 hg0b HR
 go_enter Tryz.func196,Tryz.ntmps196
 go_wp2_with fail
 refine (HIT.out _ s (H.out.nx HN0.out) HE1.out.bx rfl ya sa hA.out).mono ?_;rintro e w1 ⟨⟨xk,xn,xd,xs,xl⟩,rfl,hr1,hp1,ho1⟩
 obtain ⟨xy,-,xh⟩:=RC.of hr1
 obtain ⟨xA,xc,-,rfl,-,-,-,-,-⟩:=xh.sl conA_size
 clear xh
 rw [show vluC ⟨xk,xn,xd,xs,.slice xA xy.length xc⟩ = .agg #[.int .i64 (xk:Int),.int .i64 xn,.int .u64 (xd:Int),.string ⟨xs.toArray⟩,.slice xA xy.length xc] from rfl]
 obtain ⟨g6,hg6⟩:∃ g,w1.heap.size=g:=⟨_,rfl⟩
 have hB6:=Blk.new w1 #[.int .i64 (xk:Int),.int .i64 xn,.int .u64 (xd:Int),.string ⟨xs.toArray⟩,.slice xA xy.length xc] 68
 rw [hg6] at hB6
 have hn1:=nx0 w1 (.cells #[.int .i64 (xk:Int),.int .i64 xn,.int .u64 (xd:Int),.string ⟨xs.toArray⟩,.slice xA xy.length xc] 68)
 have HB1:=Lib.hid ((ho1.blk HB0.out HGB.out).below hn1)
 have HR1:=Lib.hid (RC.lasts _ (Mv.nx hn1 (Nat.le_refl _)) hr1)
 have HP1:=Lib.hid (hp1.nx hn1)
 have HO1:=Lib.hid (((Oth.nx HN0.out).trans ho1).trans (Oth.nx hn1))
 have HE2:=Lib.hid (BoxP.stays _ _ HE1.out (ho1.trans (Oth.nx hn1)))
 have h6b:g6≠b:=by have:=(hp1).bw;omega
 have h60:g0<g6:=by have:=(ho1.blk HB0.out HGB.out).lt;omega
 have HB6:=Lib.hid hB6
 clear hr1 hp1 ho1 hn1 c5 hB6
 go_upto_region 2 with (fail)
 generalize World.alloc w1 _=w2 at *
 have c2:w2.cell? ⟨g2,0,none⟩=some (.pointer (some ⟨b,0,none⟩)):=HE2.out.bx.k2.cell 0
 go_wp2_with fail
 refine (need_any HP1.out _ [58] (Tx.of _) _ rfl).mono ?_;rintro e w3 ⟨rfl,hp3,ho3⟩
 have HP3:=Lib.hid hp3
 have HB3:=Lib.hid (ho3.blk HB1.out HGB.out)
 have HK6:=Lib.hid (ho3.blk HB6.out h6b)
 have HR3:=Lib.hid (RC.lasts _ (Mv.oth ho3 (Nat.le_refl _) (by simp;omega)) HR1.out)
 have HO3:=Lib.hid (HO1.out.trans ho3)
 have HE3:=Lib.hid (BoxP.stays _ _ HE2.out ho3)
 clear hp3 ho3 c2
 have c5:w3.cell? ⟨g5,0,none⟩=some (.func (.func 194) #[] #[.pointer (some ⟨g2,0,none⟩),.pointer (some ⟨g3,0,none⟩)]):=HE3.out.k5.cell 0
 obtain ⟨k0,k1,k2,k3,k4,-⟩:=cellsP5 HK6.out
 go_wp2_with fail
 have HP4:=Lib.hid (HP3.out.nx ((Nx.refl w3).dr 1))
 have HE4:=Lib.hid (BoxP.stays _ _ HE3.out (Oth.nx ((Nx.refl w3).dr 1)))
 have HIT2:=Lib.hid (HIT.out w3.drew _ HP4.out HE4.out.bx rfl yb sb hB.out)
 go_region_with ((refine HIT2.out.mono ?_);rintro e w4 ⟨⟨zk,zn,zd,zs,zl⟩,rfl,hr5,hp5,ho5⟩;obtain ⟨zy,-,zh⟩:=RC.of hr5;obtain ⟨zA,zc,-,rfl,-,-,-,-,-⟩:=zh.sl conA_size;clear zh;rw [show vluC ⟨zk,zn,zd,zs,.slice zA zy.length zc⟩ = .agg #[.int .i64 (zk:Int),.int .i64 zn,.int .u64 (zd:Int),.string ⟨zs.toArray⟩,.slice zA zy.length zc] from rfl];obtain ⟨k0,k1,k2,k3,k4,-⟩:=cellsP5 (ho5.blk (HK6.out.drew 1) h6b);have HB5:=Lib.hid (ho5.blk (HB3.out.drew 1) HGB.out);have HR5:=Lib.hid hr5;have HP5:=Lib.hid hp5;have HO5:=Lib.hid ho5;clear hr5 hp5 ho5;obtain ⟨d0,d1,d2,d3,d4,d5,d6,d7,d8,d9,e0,e1,e2,e3,e4,e5,e6,e7,e8,e9⟩:=cellsP10 HB5.out)
 all_goals
  have hn3:=(Nx.refl w3).dr 1
  go_wp2_with fail
  refine bodyPost_ret (results_cell_row rfl _ _ g0 _ _ _ _ rfl (HB5.out.putP10).2 Tryz.underlying245 rfl (by kernel_rfl)) rfl ?_
  have HW:=(Oth.refl g0 w4).own (i:=0) (v:=.int .i64 (xk:Int)) |>.own (i:=1) (v:=.int .i64 xn) |>.own (i:=2) (v:=.int .u64 (xd:Int)) |>.own (i:=3) (v:=.string ⟨xs.toArray⟩) |>.own (i:=4) (v:=.slice xA xy.length xc)
   |>.own (i:=5) (v:=.int .i64 (zk:Int)) |>.own (i:=6) (v:=.int .i64 zn) |>.own (i:=7) (v:=.int .u64 (zd:Int)) |>.own (i:=8) (v:=.string ⟨zs.toArray⟩) |>.own (i:=9) (v:=.slice zA zy.length zc)
  have hs3:=HO3.out.size
  have hg3:=HB3.out.lt
  refine ⟨(⟨xk,xn,xd,xs,.slice xA xy.length xc⟩,⟨zk,zn,zd,zs,.slice zA zy.length zc⟩),rfl,⟨?_,?_⟩,HP5.out.apart HW hbg0,((HO3.out.trans (Oth.nx hn3)).trans HO5.out).apart HW HG0.out⟩
  ·refine RC.lasts _ (Mv.oth HW HN0.out.size (by simp;omega)) (RC.lasts _ (Mv.oth HO5.out (Nat.le_refl _) (by simp;omega)) (RC.lasts _ (Mv.nx hn3 (Nat.le_refl _)) HR3.out))
  ·exact RC.lasts _ (Mv.oth HW hs3 hg3) HR5.out
theorem ReadC.weak {α β:Type} {f:α→Value} {R:World→(Nat→Prop)→α→β→Prop} {b c:Nat} {A:Option Addr} {ws:List TokV} {E:World→Prop} {fn:Nat} {args:Array Value} {p:PSt→Bool} {rd:PSt→β×PSt}
  (h:ReadC f R b c A ws E fn args (fun _=>true) rd):ReadC f R b c A ws E fn args p rd:=fun w s h0 hE _ y s' hr=>h w s h0 hE rfl y s' hr
theorem atCon_at {b c:Nat} {A:Option Addr} {ws:List TokV} {E:World→Prop}:AtC b c A ws E 147 #[.pointer (some ⟨b,0,none⟩)] (atConP ws):=fun w s h0 _ B hB=>atCon_any h0 B hB
end Go.Proofs.YtpbjkgpdkopgmaaGreatDoor
