/- The code's printer: definitions. -/
import Derived.Test.YtjggghfekakogaaGreatDoorH27
set_option linter.unusedVariables false
set_option linter.unusedSimpArgs false
set_option linter.unnecessarySimpa false
namespace Go.Proofs.YtjggghfekakogaaGreatDoor
open Go.RowKit
theorem mems_is (l:List Mem):l.flatMap (memF tenS)=l.flatMap fun y=>[32,32]++memG y++[44,10]:=by
 rw [show memF tenS=fun y=>[32,32]++memG y++[44,10] from funext memG_is]
theorem flds_is (sh:Nat→List UInt8) (l:List Fld):l.flatMap (fldL tenS sh)=l.flatMap fun y=>[32,32]++fieldF tenS sh y++[44,10]:=rfl
theorem mets_is (sh:Nat→List UInt8) (l:List Met):l.flatMap (methodF tenS sh)=l.flatMap fun y=>[32,32]++methG sh y++[44,10]:=by
 rw [show methodF tenS sh=fun y=>[32,32]++methG sh y++[44,10] from funext (methG_is sh)]
theorem RD.gw {v v':Value} {w w':World} {x:DfnS} {c:Dfn} (h:RD w (No v) x c) (hg:Gw v w v' w'):RD w' (No v') x c:=RD.lasts hg.mv h
theorem LD.gw {v v' lv:Value} {w w':World} {l:List Dfn} (h:LD w (No v) lv l) (hg:Gw v w v' w'):LD w' (No v') lv l:=LD.lasts hg.mv h
structure DefV (B g:Nat) (v cv:Value) (xs xt xn E:List UInt8) (W:World) (q:Nat→Bool) (x:Nat→Value) (w:World):Prop where
 nx:q 9=false→Nx W w
 x0:q 0=true→x 0=v
 x1:q 1=true→x 1 = .pointer (some ⟨g,2,none⟩)
 x2:q 2=true→x 2 = .string ⟨xt.toArray⟩
 x3:q 3=true→x 3 = .pointer (some ⟨g,1,none⟩)
 x4:q 4=true→x 4 = .string ⟨xn.toArray⟩
 x5:q 5=true→x 5 = .pointer (some ⟨g,3,none⟩)
 x6:q 6=true→x 6=cv
 x7:q 7=true→x 7 = .string ⟨E.toArray⟩
 x8:q 8=true→∃ h,x 8 = .slice (some ⟨h,0,none⟩) 7 7∧(q 9=false→Blk w h h ([[99,111,110,115,116,32],xt,[32],xn,[32,61,32],E,[10]].map bt).toArray 9)
 x9:q 9=true→Ob B w (x 9) (xs++[[99,111,110,115,116,32],xt,[32],xn,[32,61,32],E,[10]].flatten)∧Gw v W (x 9) w
 x10:q 10=true→x 10=x 9
def DefS (B g:Nat) (v cv:Value) (xs xt xn E:List UInt8) (W:World) (ls:Array Bool) (x:Nat→Value) (w:World):Prop:=DefV B g v cv xs xt xn E W (fun j=>ls.getD j false) x w
section
variable {B g:Nat} {v cv:Value} {xs xt xn E:List UInt8} {W:World} {q:Nat→Bool} {x:Nat→Value} {w w':World} {v':Value}
theorem DefV.set0 (h:DefV B g v cv xs xt xn E W q x w):DefV B g v cv xs xt xn E W (updB q 0) (RI.upd x 0 v) w where
 nx:=by simpa [RI.upd,updB] using h.nx
 x0:=fun _=>RI.upd_same _ _ _
 x1:=by simpa [RI.upd,updB] using h.x1
 x2:=by simpa [RI.upd,updB] using h.x2
 x3:=by simpa [RI.upd,updB] using h.x3
 x4:=by simpa [RI.upd,updB] using h.x4
 x5:=by simpa [RI.upd,updB] using h.x5
 x6:=by simpa [RI.upd,updB] using h.x6
 x7:=by simpa [RI.upd,updB] using h.x7
 x8:=by simpa [RI.upd,updB] using h.x8
 x9:=by simpa [RI.upd,updB] using h.x9
 x10:=by simpa [RI.upd,updB] using h.x10
theorem DefV.set1 (h:DefV B g v cv xs xt xn E W q x w):DefV B g v cv xs xt xn E W (updB q 1) (RI.upd x 1 (.pointer (some ⟨g,2,none⟩))) w where
 nx:=by simpa [RI.upd,updB] using h.nx
 x0:=by simpa [RI.upd,updB] using h.x0
 x1:=fun _=>RI.upd_same _ _ _
 x2:=by simpa [RI.upd,updB] using h.x2
 x3:=by simpa [RI.upd,updB] using h.x3
 x4:=by simpa [RI.upd,updB] using h.x4
 x5:=by simpa [RI.upd,updB] using h.x5
 x6:=by simpa [RI.upd,updB] using h.x6
 x7:=by simpa [RI.upd,updB] using h.x7
 x8:=by simpa [RI.upd,updB] using h.x8
 x9:=by simpa [RI.upd,updB] using h.x9
 x10:=by simpa [RI.upd,updB] using h.x10
theorem DefV.set2 (h:DefV B g v cv xs xt xn E W q x w):DefV B g v cv xs xt xn E W (updB q 2) (RI.upd x 2 (.string ⟨xt.toArray⟩)) w where
 nx:=by simpa [RI.upd,updB] using h.nx
 x0:=by simpa [RI.upd,updB] using h.x0
 x1:=by simpa [RI.upd,updB] using h.x1
 x2:=fun _=>RI.upd_same _ _ _
 x3:=by simpa [RI.upd,updB] using h.x3
 x4:=by simpa [RI.upd,updB] using h.x4
 x5:=by simpa [RI.upd,updB] using h.x5
 x6:=by simpa [RI.upd,updB] using h.x6
 x7:=by simpa [RI.upd,updB] using h.x7
 x8:=by simpa [RI.upd,updB] using h.x8
 x9:=by simpa [RI.upd,updB] using h.x9
 x10:=by simpa [RI.upd,updB] using h.x10
theorem DefV.set3 (h:DefV B g v cv xs xt xn E W q x w):DefV B g v cv xs xt xn E W (updB q 3) (RI.upd x 3 (.pointer (some ⟨g,1,none⟩))) w where
 nx:=by simpa [RI.upd,updB] using h.nx
 x0:=by simpa [RI.upd,updB] using h.x0
 x1:=by simpa [RI.upd,updB] using h.x1
 x2:=by simpa [RI.upd,updB] using h.x2
 x3:=fun _=>RI.upd_same _ _ _
 x4:=by simpa [RI.upd,updB] using h.x4
 x5:=by simpa [RI.upd,updB] using h.x5
 x6:=by simpa [RI.upd,updB] using h.x6
 x7:=by simpa [RI.upd,updB] using h.x7
 x8:=by simpa [RI.upd,updB] using h.x8
 x9:=by simpa [RI.upd,updB] using h.x9
 x10:=by simpa [RI.upd,updB] using h.x10
theorem DefV.set4 (h:DefV B g v cv xs xt xn E W q x w):DefV B g v cv xs xt xn E W (updB q 4) (RI.upd x 4 (.string ⟨xn.toArray⟩)) w where
 nx:=by simpa [RI.upd,updB] using h.nx
 x0:=by simpa [RI.upd,updB] using h.x0
 x1:=by simpa [RI.upd,updB] using h.x1
 x2:=by simpa [RI.upd,updB] using h.x2
 x3:=by simpa [RI.upd,updB] using h.x3
 x4:=fun _=>RI.upd_same _ _ _
 x5:=by simpa [RI.upd,updB] using h.x5
 x6:=by simpa [RI.upd,updB] using h.x6
 x7:=by simpa [RI.upd,updB] using h.x7
 x8:=by simpa [RI.upd,updB] using h.x8
 x9:=by simpa [RI.upd,updB] using h.x9
 x10:=by simpa [RI.upd,updB] using h.x10
theorem DefV.set5 (h:DefV B g v cv xs xt xn E W q x w):DefV B g v cv xs xt xn E W (updB q 5) (RI.upd x 5 (.pointer (some ⟨g,3,none⟩))) w where
 nx:=by simpa [RI.upd,updB] using h.nx
 x0:=by simpa [RI.upd,updB] using h.x0
 x1:=by simpa [RI.upd,updB] using h.x1
 x2:=by simpa [RI.upd,updB] using h.x2
 x3:=by simpa [RI.upd,updB] using h.x3
 x4:=by simpa [RI.upd,updB] using h.x4
 x5:=fun _=>RI.upd_same _ _ _
 x6:=by simpa [RI.upd,updB] using h.x6
 x7:=by simpa [RI.upd,updB] using h.x7
 x8:=by simpa [RI.upd,updB] using h.x8
 x9:=by simpa [RI.upd,updB] using h.x9
 x10:=by simpa [RI.upd,updB] using h.x10
theorem DefV.set6 (h:DefV B g v cv xs xt xn E W q x w):DefV B g v cv xs xt xn E W (updB q 6) (RI.upd x 6 cv) w where
 nx:=by simpa [RI.upd,updB] using h.nx
 x0:=by simpa [RI.upd,updB] using h.x0
 x1:=by simpa [RI.upd,updB] using h.x1
 x2:=by simpa [RI.upd,updB] using h.x2
 x3:=by simpa [RI.upd,updB] using h.x3
 x4:=by simpa [RI.upd,updB] using h.x4
 x5:=by simpa [RI.upd,updB] using h.x5
 x6:=fun _=>RI.upd_same _ _ _
 x7:=by simpa [RI.upd,updB] using h.x7
 x8:=by simpa [RI.upd,updB] using h.x8
 x9:=by simpa [RI.upd,updB] using h.x9
 x10:=by simpa [RI.upd,updB] using h.x10
theorem DefV.set7 (h:DefV B g v cv xs xt xn E W q x w) (n8:q 8=false) (n9:q 9=false) (hn:Nx w w'):DefV B g v cv xs xt xn E W (updB q 7) (RI.upd x 7 (.string ⟨E.toArray⟩)) w' where
 nx:=fun _=>(h.nx n9).trans hn
 x0:=by simpa [RI.upd,updB] using h.x0
 x1:=by simpa [RI.upd,updB] using h.x1
 x2:=by simpa [RI.upd,updB] using h.x2
 x3:=by simpa [RI.upd,updB] using h.x3
 x4:=by simpa [RI.upd,updB] using h.x4
 x5:=by simpa [RI.upd,updB] using h.x5
 x6:=by simpa [RI.upd,updB] using h.x6
 x7:=fun _=>RI.upd_same _ _ _
 x8:=fun k=>by simp [updB,n8] at k
 x9:=fun k=>by simp [updB,n9] at k
 x10:=by simpa [RI.upd,updB] using h.x10
theorem DefV.set8 (h:DefV B g v cv xs xt xn E W q x w) (n9:q 9=false):DefV B g v cv xs xt xn E W (updB q 8) (RI.upd x 8 (.slice (some ⟨w.heap.size,0,none⟩) 7 7)) (w.alloc (.cells ([[99,111,110,115,116,32],xt,[32],xn,[32,61,32],E,[10]].map bt).toArray 9)) where
 nx:=fun _=>(h.nx n9).trans (nx0 _ _)
 x0:=by simpa [RI.upd,updB] using h.x0
 x1:=by simpa [RI.upd,updB] using h.x1
 x2:=by simpa [RI.upd,updB] using h.x2
 x3:=by simpa [RI.upd,updB] using h.x3
 x4:=by simpa [RI.upd,updB] using h.x4
 x5:=by simpa [RI.upd,updB] using h.x5
 x6:=by simpa [RI.upd,updB] using h.x6
 x7:=by simpa [RI.upd,updB] using h.x7
 x8:=fun _=>⟨w.heap.size,RI.upd_same _ _ _,fun _=>Blk.new _ _ _⟩
 x9:=fun k=>by simp [updB,n9] at k
 x10:=by simpa [RI.upd,updB] using h.x10
theorem DefV.set9 (h:DefV B g v cv xs xt xn E W q x w) (n9:q 9=false) (n10:q 10=false) (ho:Ob B w' v' (xs++[[99,111,110,115,116,32],xt,[32],xn,[32,61,32],E,[10]].flatten)) (hg:Gw v w v' w'):DefV B g v cv xs xt xn E W (updB q 9) (RI.upd x 9 v') w' where
 nx:=fun k=>by simp [updB] at k
 x0:=by simpa [RI.upd,updB] using h.x0
 x1:=by simpa [RI.upd,updB] using h.x1
 x2:=by simpa [RI.upd,updB] using h.x2
 x3:=by simpa [RI.upd,updB] using h.x3
 x4:=by simpa [RI.upd,updB] using h.x4
 x5:=by simpa [RI.upd,updB] using h.x5
 x6:=by simpa [RI.upd,updB] using h.x6
 x7:=by simpa [RI.upd,updB] using h.x7
 x8:=fun k=>by
  obtain ⟨g',e,_⟩:=h.x8 (by simpa [updB] using k)
  exact ⟨g',by rw [RI.upd_ne _ _ _ _ (by decide)];exact e,fun k=>by simp [updB] at k⟩
 x9:=fun _=>by rw [RI.upd_same];exact ⟨ho,(Gw.nx (h.nx n9) v).trans hg⟩
 x10:=fun k=>by simp [updB,n10] at k
theorem DefV.set10 (h:DefV B g v cv xs xt xn E W q x w):DefV B g v cv xs xt xn E W (updB q 10) (RI.upd x 10 (x 9)) w where
 nx:=by simpa [RI.upd,updB] using h.nx
 x0:=by simpa [RI.upd,updB] using h.x0
 x1:=by simpa [RI.upd,updB] using h.x1
 x2:=by simpa [RI.upd,updB] using h.x2
 x3:=by simpa [RI.upd,updB] using h.x3
 x4:=by simpa [RI.upd,updB] using h.x4
 x5:=by simpa [RI.upd,updB] using h.x5
 x6:=by simpa [RI.upd,updB] using h.x6
 x7:=by simpa [RI.upd,updB] using h.x7
 x8:=by simpa [RI.upd,updB] using h.x8
 x9:=by simpa [RI.upd,updB] using h.x9
 x10:=by simp [RI.upd,updB]
end
set_option maxRecDepth 100000 in
set_option maxHeartbeats 12800000 in
theorem appendDef_any {sh:Nat→List UInt8} (hsh:∀ B l,ShowR B l→l=sh B) (B:Nat) (w:World) (v:Value) (xs:List UInt8) (x:DfnS) (d:Dfn) (hown:Ob B w v xs) (ht:TabB B w) (hr:RD w (No v) x d) (hok:prD d)
  (hlen:(xs.length:Int)+((defF tenS sh d).length:Int)≤64000) :
  Calls Tryz.prog 47 #[v,.agg (dfnA x)] w fun e w'=>∃ v',e = .returned v'∧Ob B w' v' (xs++defF tenS sh d)∧Gw v w v' w':=by
 obtain ⟨xk,xn,xt,⟨ik,im,idd,is,il⟩,xf,xm,xe,xv⟩:=x
 obtain ⟨dk,dn,dt,di,ff,fm,de,ft⟩:=d
 obtain ⟨h1,h2,h3,hrc,hrf,hrm,h4,hrt⟩:=hr
 dsimp only at h1 h2 h3 h4 hrc hrf hrm hrt
 subst h1 h2 h3 h4
 obtain ⟨⟨hk1,hk7⟩,hpi,⟨hfl,hokf⟩,⟨hml,hokm⟩,⟨htl,hokt⟩,hn7,hn2,hn4⟩:=hok
 dsimp only at hk1 hk7 hpi hfl hokf hml hokm htl hokt hn7 hn2 hn4
 obtain ⟨cA,ck,cc,hx1⟩:=hrc.slv
 obtain ⟨fA,fc,-,hx2,-⟩:=hrf.sl fldA_size
 obtain ⟨mA,mc,-,hx3,-⟩:=hrm.sl memA_size
 obtain ⟨tA,tc,-,hx4,-⟩:=hrt.sl metA_size
 dsimp only at hx1
 subst hx1 hx2 hx3 hx4
 obtain ⟨F,hF⟩:∃ F,Hid (defF tenS sh ⟨xk,xn,xt,di,ff,fm,xe,ft⟩=F):=⟨_,Lib.hid rfl⟩
 rw [hF.out] at hlen ⊢
 obtain ⟨g,hg⟩:∃ g,w.heap.size=g:=⟨_,rfl⟩
 have hB:=Blk.new w #[.int .i64 (xk:Int),.string ⟨xn.toArray⟩,.string ⟨xt.toArray⟩,.int .i64 (ik:Int),.int .i64 im,.int .u64 (idd:Int),.string ⟨is.toArray⟩,.slice cA ck cc,.slice fA ff.length fc,.slice mA fm.length mc,.string ⟨xe.toArray⟩,.slice tA ft.length tc] 55
 rw [hg] at hB
 have hne:v.ownBlock≠some g:=by rw [← hg];exact hown.new
 have hn0:Nx w (w.alloc (.cells #[.int .i64 (xk:Int),.string ⟨xn.toArray⟩,.string ⟨xt.toArray⟩,.int .i64 (ik:Int),.int .i64 im,.int .u64 (idd:Int),.string ⟨is.toArray⟩,.slice cA ck cc,.slice fA ff.length fc,.slice mA fm.length mc,.string ⟨xe.toArray⟩,.slice tA ft.length tc] 55)):=nx0 _ _
 have HB:=Lib.hid hB
 have HN0:=Lib.hid hn0
 have HNE:=Lib.hid hne
 have HOWN:=Lib.hid hown
 have HT:=Lib.hid ht
 have HRC:=Lib.hid hrc
 have HRF:=Lib.hid hrf
 have HRM:=Lib.hid hrm
 have HRT:=Lib.hid hrt
 have HPI:=Lib.hid hpi
 have HOF:=Lib.hid hokf
 have HOM:=Lib.hid hokm
 have HOT:=Lib.hid hokt
 have HLEN:=Lib.hid hlen
 have HSH:=Lib.hid hsh
 clear hB hn0 hne hown ht hrc hrf hrm hrt hpi hokf hokm hokt hlen hsh
 show Calls _ _ #[v,.agg #[.int .i64 (xk:Int),.string ⟨xn.toArray⟩,.string ⟨xt.toArray⟩,.int .i64 (ik:Int),.int .i64 im,.int .u64 (idd:Int),.string ⟨is.toArray⟩,.slice cA ck cc,.slice fA ff.length fc,.slice mA fm.length mc,.string ⟨xe.toArray⟩,.slice tA ft.length tc]] _ _
 go_enter Tryz.func47,Tryz.ntmps47
 go_upto_region 1 with fail
 generalize World.alloc w _=W at *
 have HO:=Lib.hid (HOWN.out.nx HN0.out)
 have HG0:=Lib.hid (Gw.nx HN0.out v)
 have HTW:=Lib.hid (HT.out.on (HG0.out.below HOWN.out))
 clear hg
 have c0:W.cell? ⟨g,0,none⟩=some (.int .i64 (xk:Int)):=HB.out.cell 0
 have c1:W.cell? ⟨g,1,none⟩=some (.string ⟨xn.toArray⟩):=HB.out.cell 1
 have c2:W.cell? ⟨g,2,none⟩=some (.string ⟨xt.toArray⟩):=HB.out.cell 2
 have c3:W.cell? ⟨g,3,none⟩=some (.int .i64 (ik:Int)):=HB.out.cell 3
 have c4:W.cell? ⟨g,4,none⟩=some (.int .i64 im):=HB.out.cell 4
 have c5:W.cell? ⟨g,5,none⟩=some (.int .u64 (idd:Int)):=HB.out.cell 5
 have c6:W.cell? ⟨g,6,none⟩=some (.string ⟨is.toArray⟩):=HB.out.cell 6
 have c7:W.cell? ⟨g,7,none⟩=some (.slice cA ck cc):=HB.out.cell 7
 have c8:W.cell? ⟨g,8,none⟩=some (.slice fA ff.length fc):=HB.out.cell 8
 have c9:W.cell? ⟨g,9,none⟩=some (.slice mA fm.length mc):=HB.out.cell 9
 have c10:W.cell? ⟨g,10,none⟩=some (.string ⟨xe.toArray⟩):=HB.out.cell 10
 have c11:W.cell? ⟨g,11,none⟩=some (.slice tA ft.length tc):=HB.out.cell 11
 have hfd:F=defF tenS sh ⟨xk,xn,xt,di,ff,fm,xe,ft⟩:=hF.out.symm
 unfold defF at hfd
 dsimp only at hfd
 by_cases h1:xk=1
 ·subst h1
  have hFe:F=[[116,121,112,101,100,101,102,32],xt,[32],xn,[10]].flatten:=by rw [hfd,if_pos rfl];simp [wordD]
  have hcall:=fun h hh=>appendAll_new [[116,121,112,101,100,101,102,32],xt,[32],xn,[10]] HO.out (by simp) (by have:=HLEN.out;rw [hFe] at this;omega) h hh
  have HC:=Lib.hid hcall
  have HFE:=Lib.hid hFe
  obtain ⟨h2,hh2⟩:∃ h,W.heap.size=h:=⟨_,rfl⟩
  clear hcall hFe hfd
  go_wp2_with fail
  refine (HC.out h2 hh2).mono ?_;rintro e w3 ⟨v3,rfl,HO3,HG3⟩
  clear hh2
  go_wp2_with fail
  go_ret
  exact ⟨v3,rfl,HO3.out.cast (by rw [HFE.out]),HG0.out.trans HG3.out⟩
 have b1:((xk:Int) == 1)=false:=by rw [beq_eq_false_iff_ne];omega
 have b1':¬ (xk:Int)=1:=by omega
 by_cases h3:xk=3
 ·subst h3
  obtain ⟨E,hE⟩:∃ E,Hid (constF tenS sh 13 di=E):=⟨_,Lib.hid rfl⟩
  have hFe:F=[[99,111,110,115,116,32],xt,[32],xn,[32,61,32],E,[10]].flatten:=by rw [hfd,if_neg (by decide),if_pos rfl,hE.out];simp [wordD]
  have HFE:=Lib.hid hFe
  have hel:(E.length:Int)≤64000:=by have:=HLEN.out;rw [hFe] at this;simp at this;omega
  have hal:(xs.length:Int)+(([[99,111,110,115,116,32],xt,[32],xn,[32,61,32],E,[10]]:List (List UInt8)).flatten.length:Int)≤100000000:=by have:=HLEN.out;rw [hFe] at this;omega
  have HAL:=Lib.hid hal
  have HEL:=Lib.hid hel
  clear hfd hFe hel hal
  go_upto_region 5 with fail
  refine RI.wp_region_X (DefS B g v (.agg #[.int .i64 (ik:Int),.int .i64 im,.int .u64 (idd:Int),.string ⟨is.toArray⟩,.slice cA ck cc]) xs xt xn E W) rfl (by kernel_rfl) (by kernel_rfl) ?_ ?_ ?_
  ·intro x
   have e:(fun j=>(Array.replicate 11 false).getD j false)=fun _=>false:=by
    funext j
    rw [Array.getD_eq_getD_getElem?]
    cases h:(Array.replicate 11 false)[j]? with
    | none=>rfl
    | some b =>
     obtain ⟨h1,h2⟩:=Array.getElem?_eq_some_iff.1 h
     simp at h2
     simp [← h2]
   show DefV B g v _ xs xt xn E W (fun j=>(Array.replicate 11 false).getD j false) x _
   rw [e]
   exact ⟨fun _=>Nx.drawn _,(fun h=>by cases h),(fun h=>by cases h),(fun h=>by cases h),(fun h=>by cases h),(fun h=>by cases h),(fun h=>by cases h),(fun h=>by cases h),(fun h=>by cases h),(fun h=>by cases h),(fun h=>by cases h),(fun h=>by cases h)⟩
  ·refine ⟨?_,?_,?_,?_,?_,?_,?_,?_,?_,?_,?_,trivial⟩
   ·intro a x ls w' hS hsz hni hcl hin hout hd K hK
    have o:a.eval (.tmp 0)=v:=hout 0 (by kernel_rfl)
    have:=hK w' v (by unfold DefS;rw [getD_upd (by rw [hsz];decide)];exact hS.set0)
    rw [← o] at this
    exact this
   ·intro a x ls w' hS hsz hni hcl hin hout hd K hK
    have i3:a.tmps.getD 3 undef = .pointer (some ⟨g,0,none⟩):=hout 3 (by kernel_rfl)
    have j3:=i3
    rw [Array.getD_eq_getD_getElem?] at j3
    have:=hK _ _ (by unfold DefS;rw [getD_upd (by rw [hsz];decide)];exact hS.set1)
    clear hin hout hd hcl hS hK
    go_simp
    exact this
   ·intro a x ls w' hS hsz hni hcl hin hout hd K hK
    have n9:ls.getD 9 false=false:=hcl.not 20 9 2 (by kernel_rfl) hni
    have i3:a.tmps.getD 20 undef = .pointer (some ⟨g,2,none⟩):=(hin 20 1 (by kernel_rfl) (show 20<84 by decide)).trans (hS.x1 (hd ⟨1,.data⟩ (by simp) rfl))
    have j3:=i3
    rw [Array.getD_eq_getD_getElem?] at j3
    have hb2:=HB.out.below (hS.nx n9)
    have k4:w'.cell? ⟨g,2,none⟩=some (.string ⟨xt.toArray⟩):=hb2.cell 2
    have:=hK _ _ (by unfold DefS;rw [getD_upd (by rw [hsz];decide)];exact hS.set2)
    clear hin hout hd hcl hS hK hb2 n9
    go_simp
    exact this
   ·intro a x ls w' hS hsz hni hcl hin hout hd K hK
    have i3:a.tmps.getD 3 undef = .pointer (some ⟨g,0,none⟩):=hout 3 (by kernel_rfl)
    have j3:=i3
    rw [Array.getD_eq_getD_getElem?] at j3
    have:=hK _ _ (by unfold DefS;rw [getD_upd (by rw [hsz];decide)];exact hS.set3)
    clear hin hout hd hcl hS hK
    go_simp
    exact this
   ·intro a x ls w' hS hsz hni hcl hin hout hd K hK
    have n9:ls.getD 9 false=false:=hcl.not 20 9 4 (by kernel_rfl) hni
    have i3:a.tmps.getD 22 undef = .pointer (some ⟨g,1,none⟩):=(hin 22 3 (by kernel_rfl) (show 22<84 by decide)).trans (hS.x3 (hd ⟨3,.data⟩ (by simp) rfl))
    have j3:=i3
    rw [Array.getD_eq_getD_getElem?] at j3
    have hb2:=HB.out.below (hS.nx n9)
    have k4:w'.cell? ⟨g,1,none⟩=some (.string ⟨xn.toArray⟩):=hb2.cell 1
    have:=hK _ _ (by unfold DefS;rw [getD_upd (by rw [hsz];decide)];exact hS.set4)
    clear hin hout hd hcl hS hK hb2 n9
    go_simp
    exact this
   ·intro a x ls w' hS hsz hni hcl hin hout hd K hK
    have i3:a.tmps.getD 3 undef = .pointer (some ⟨g,0,none⟩):=hout 3 (by kernel_rfl)
    have j3:=i3
    rw [Array.getD_eq_getD_getElem?] at j3
    have:=hK _ _ (by unfold DefS;rw [getD_upd (by rw [hsz];decide)];exact hS.set5)
    clear hin hout hd hcl hS hK
    go_simp
    exact this
   ·intro a x ls w' hS hsz hni hcl hin hout hd K hK
    have n9:ls.getD 9 false=false:=hcl.not 20 9 6 (by kernel_rfl) hni
    have i3:a.tmps.getD 24 undef = .pointer (some ⟨g,3,none⟩):=(hin 24 5 (by kernel_rfl) (show 24<84 by decide)).trans (hS.x5 (hd ⟨5,.data⟩ (by simp) rfl))
    have j3:=i3
    rw [Array.getD_eq_getD_getElem?] at j3
    have hb2:=HB.out.below (hS.nx n9)
    have k3:w'.cell? ⟨g,3,none⟩=some (.int .i64 (ik:Int)):=hb2.cell 3
    have k4:w'.cell? ⟨g,4,none⟩=some (.int .i64 im):=hb2.cell 4
    have k5:w'.cell? ⟨g,5,none⟩=some (.int .u64 (idd:Int)):=hb2.cell 5
    have k6:w'.cell? ⟨g,6,none⟩=some (.string ⟨is.toArray⟩):=hb2.cell 6
    have k7:w'.cell? ⟨g,7,none⟩=some (.slice cA ck cc):=hb2.cell 7
    have:=hK _ _ (by unfold DefS;rw [getD_upd (by rw [hsz];decide)];exact hS.set6)
    clear hin hout hd hcl hS hK hb2 n9
    go_simp
    exact this
   ·intro a x ls w' hS hsz hni hcl hin hout hd K hK
    have n9:ls.getD 9 false=false:=hcl.not 20 9 7 (by kernel_rfl) hni
    have n8:ls.getD 8 false=false:=hcl.not 20 8 7 (by kernel_rfl) hni
    have i3:a.tmps.getD 25 undef = .agg #[.int .i64 (ik:Int),.int .i64 im,.int .u64 (idd:Int),.string ⟨is.toArray⟩,.slice cA ck cc]:=(hin 25 6 (by kernel_rfl) (show 25<84 by decide)).trans (hS.x6 (hd ⟨6,.data⟩ (by simp) rfl))
    have j3:=i3
    rw [Array.getD_eq_getD_getElem?] at j3
    have hcall:=printConst_any HSH.out 13 w' (No v) ⟨ik,im,idd,is,.slice cA ck cc⟩ di ((HTW.out.on ((hS.nx n9).mono HO.out.1)).here) (RC.lasts 13 ⟨fun _ _ hl=>(HN0.out.trans (hS.nx n9)).block _ hl,fun _ h _=>h⟩ HRC.out) (HPI.out rfl) (by rw [hE.out];exact HEL.out)
    rw [hE.out] at hcall
    have HC:=Lib.hid hcall
    have HS:=Lib.hid hS
    have HK:=Lib.hid hK
    clear hin hout hd hcl hS hcall hK
    go_simp
    refine HC.out.mono ?_;rintro e w2 ⟨rfl,hn⟩
    exact HK.out w2 _ (by unfold DefS;rw [getD_upd (by rw [hsz];decide)];exact HS.out.set7 n8 n9 hn)
   ·intro a x ls w' hS hsz hni hcl hin hout hd K hK
    have n9:ls.getD 9 false=false:=hcl.not 20 9 8 (by kernel_rfl) hni
    have i2:a.tmps.getD 21 undef = .string ⟨xt.toArray⟩:=(hin 21 2 (by kernel_rfl) (show 21<84 by decide)).trans (hS.x2 (hd ⟨2,.data⟩ (by simp) rfl))
    have i4:a.tmps.getD 23 undef = .string ⟨xn.toArray⟩:=(hin 23 4 (by kernel_rfl) (show 23<84 by decide)).trans (hS.x4 (hd ⟨4,.data⟩ (by simp) rfl))
    have i7:a.tmps.getD 26 undef = .string ⟨E.toArray⟩:=(hin 26 7 (by kernel_rfl) (show 26<84 by decide)).trans (hS.x7 (hd ⟨7,.data⟩ (by simp) rfl))
    have j2:=i2
    rw [Array.getD_eq_getD_getElem?] at j2
    have j4:=i4
    rw [Array.getD_eq_getD_getElem?] at j4
    have j7:=i7
    rw [Array.getD_eq_getD_getElem?] at j7
    have:=hK _ _ (by unfold DefS;rw [getD_upd (by rw [hsz];decide)];exact hS.set8 n9)
    clear hin hout hd hcl hS hK
    go_simp
    exact this
   ·intro a x ls w' hS hsz hni hcl hin hout hd K hK
    have n9:ls.getD 9 false=false:=RI.off_of (by rw [hsz];decide) hni
    have n10:ls.getD 10 false=false:=hcl.not 20 10 9 (by kernel_rfl) hni
    obtain ⟨h,e8,hb8⟩:=hS.x8 (hd ⟨8,.data⟩ (by simp) rfl)
    have i0:a.tmps.getD 19 undef=v:=(hin 19 0 (by kernel_rfl) (show 19<84 by decide)).trans (hS.x0 (hd ⟨0,.data⟩ (by simp) rfl))
    have i8:a.tmps.getD 27 undef = .slice (some ⟨h,0,none⟩) 7 7:=(hin 27 8 (by kernel_rfl) (show 27<84 by decide)).trans e8
    have j0:=i0
    rw [Array.getD_eq_getD_getElem?] at j0
    have j8:=i8
    rw [Array.getD_eq_getD_getElem?] at j8
    have hcall:=appendAll_any B h [[99,111,110,115,116,32],xt,[32],xn,[32,61,32],E,[10]] v xs w' (HO.out.nx (hS.nx n9)) (hb8 n9) (show 7≤1000 by decide) HAL.out
    have HC:=Lib.hid hcall
    have HS:=Lib.hid hS
    have HK:=Lib.hid hK
    clear hin hout hd hcl hS hcall hK hb8
    go_simp
    refine HC.out.mono ?_;rintro e w2 ⟨v2,rfl,ho,hg⟩
    exact HK.out w2 v2 (by unfold DefS;rw [getD_upd (by rw [hsz];decide)];exact HS.out.set9 n9 n10 ho hg)
   ·intro a x ls w' hS hsz hni hcl hin hout hd K hK
    have o:a.eval (.tmp 28)=x 9:=hin 28 9 (by kernel_rfl) (show 28<84 by decide)
    have:=hK w' (x 9) (by unfold DefS;rw [getD_upd (by rw [hsz];decide)];exact hS.set10)
    rw [← o] at this
    exact this
  ·intro A' x ls w' hS hall hin hout hA
   obtain ⟨ho,hg9⟩:=hS.x9 (hall 9 (by decide))
   have e10:=hS.x10 (hall 10 (by decide))
   have hA2:=hA.out
   clear hA hin hout hall
   simp only [RI.setAll,List.toList_toArray,List.set_cons_succ,List.set_cons_zero,Nat.reduceAdd] at hA2
   rw [e10] at hA2
   have HOB:=Lib.hid ho
   have HGW:=Lib.hid (HG0.out.trans hg9)
   subst hA2
   clear hS e10 ho hg9
   go_wp2_with fail
   go_ret
   exact ⟨_,rfl,HOB.out.cast (by rw [HFE.out]),HGW.out⟩
 have b3:((xk:Int) == 3)=false:=by rw [beq_eq_false_iff_ne];omega
 have b3':¬ (xk:Int)=3:=by omega
 rw [if_neg h1,if_neg h3] at hfd
 by_cases h2:xk=2
 ·subst h2
  have hFe:F=[[101,110,117,109,32]++xn,[32,123,10]].flatten++(fm.flatMap fun y=>[32,32]++memG y++[44,10])++[125,10]:=by
   rw [hfd,(hn7 (by decide)).1,(hn7 (by decide)).2,hn4 (by decide) (by decide) (by decide),mems_is];simp [wordD]
  have hz:(xs.length:Int)+(([101,110,117,109,32]++xn:List UInt8).length:Int)+((fm.flatMap (memF tenS)).length:Int)≤63995:=by
   have:=HLEN.out;rw [hFe,← mems_is] at this;simp only [List.length_append,List.length_cons,List.length_nil,List.flatten_cons,List.flatten_nil] at this ⊢;omega
  have hszn:(xn.length:Int)+5≤1000000000:=by simp only [List.length_append] at hz;omega
  have hcat:Tx ((⟨#[101,110,117,109,32]⟩:ByteArray)++⟨xn.toArray⟩) ([101,110,117,109,32]++xn):=(Tx.of [101,110,117,109,32]).cat (Tx.of xn)
  have hsz1:(⟨xn.toArray⟩:ByteArray).size=xn.length:=(Tx.of xn).size
  have hcall:=fun hs (hh:Tx hs ([101,110,117,109,32]++xn))=>blockMem_any HSH.out B W v (.slice mA fm.length mc) xs ([101,110,117,109,32]++xn) hs fm HO.out HTW.out hh (HRM.out.gw HG0.out) hml HOM.out (by rw [← mems_is];exact hz)
  have HC:=Lib.hid hcall
  have HCAT:=Lib.hid hcat
  have HFE:=Lib.hid hFe
  clear hcall hcat hFe hz
  go_wp2_with fail
  refine (HC.out _ HCAT.out).mono ?_;rintro e w2 ⟨v2,rfl,HO2,HG2⟩
  go_wp2_with fail
  go_ret
  exact ⟨v2,rfl,HO2.out.cast (by rw [HFE.out]),HG0.out.trans HG2.out⟩
 have b2:((xk:Int) == 2)=false:=by rw [beq_eq_false_iff_ne];omega
 have b2':¬ (xk:Int)=2:=by omega
 by_cases h4:xk=4
 ·subst h4
  have hFe:F=[[115,116,114,117,99,116,32]++xn,[32,123,10]].flatten++(ff.flatMap fun y=>[32,32]++fieldF tenS sh y++[44,10])++[125,10]:=by
   rw [hfd,(hn7 (by decide)).1,(hn7 (by decide)).2,hn2 (by decide),flds_is];simp [wordD]
  have hz:(xs.length:Int)+(([115,116,114,117,99,116,32]++xn:List UInt8).length:Int)+((ff.flatMap fun y=>[32,32]++fieldF tenS sh y++[44,10]).length:Int)≤63995:=by
   have:=HLEN.out;rw [hFe] at this;simp only [List.length_append,List.length_cons,List.length_nil,List.flatten_cons,List.flatten_nil] at this ⊢;omega
  have hszn:(xn.length:Int)+7≤1000000000:=by simp only [List.length_append] at hz;omega
  have hcat:Tx ((⟨#[115,116,114,117,99,116,32]⟩:ByteArray)++⟨xn.toArray⟩) ([115,116,114,117,99,116,32]++xn):=(Tx.of [115,116,114,117,99,116,32]).cat (Tx.of xn)
  have hsz1:(⟨xn.toArray⟩:ByteArray).size=xn.length:=(Tx.of xn).size
  have hcall:=fun hs (hh:Tx hs ([115,116,114,117,99,116,32]++xn))=>blockFld_any HSH.out B W v (.slice fA ff.length fc) xs ([115,116,114,117,99,116,32]++xn) hs ff HO.out HTW.out hh (HRF.out.gw HG0.out) hfl HOF.out hz
  have HC:=Lib.hid hcall
  have HCAT:=Lib.hid hcat
  have HFE:=Lib.hid hFe
  clear hcall hcat hFe hz
  go_wp2_with fail
  refine (HC.out _ HCAT.out).mono ?_;rintro e w2 ⟨v2,rfl,HO2,HG2⟩
  go_wp2_with fail
  go_ret
  exact ⟨v2,rfl,HO2.out.cast (by rw [HFE.out]),HG0.out.trans HG2.out⟩
 have b4:((xk:Int) == 4)=false:=by rw [beq_eq_false_iff_ne];omega
 have b4':¬ (xk:Int)=4:=by omega
 by_cases h5:xk=5
 ·subst h5
  have hFe:F=[[117,110,105,111,110,32]++xn,[32,123,10]].flatten++(ff.flatMap fun y=>[32,32]++fieldF tenS sh y++[44,10])++[125,10]:=by
   rw [hfd,(hn7 (by decide)).1,(hn7 (by decide)).2,hn2 (by decide),flds_is];simp [wordD]
  have hz:(xs.length:Int)+(([117,110,105,111,110,32]++xn:List UInt8).length:Int)+((ff.flatMap fun y=>[32,32]++fieldF tenS sh y++[44,10]).length:Int)≤63995:=by
   have:=HLEN.out;rw [hFe] at this;simp only [List.length_append,List.length_cons,List.length_nil,List.flatten_cons,List.flatten_nil] at this ⊢;omega
  have hszn:(xn.length:Int)+6≤1000000000:=by simp only [List.length_append] at hz;omega
  have hcat:Tx ((⟨#[117,110,105,111,110,32]⟩:ByteArray)++⟨xn.toArray⟩) ([117,110,105,111,110,32]++xn):=(Tx.of [117,110,105,111,110,32]).cat (Tx.of xn)
  have hsz1:(⟨xn.toArray⟩:ByteArray).size=xn.length:=(Tx.of xn).size
  have hcall:=fun hs (hh:Tx hs ([117,110,105,111,110,32]++xn))=>blockFld_any HSH.out B W v (.slice fA ff.length fc) xs ([117,110,105,111,110,32]++xn) hs ff HO.out HTW.out hh (HRF.out.gw HG0.out) hfl HOF.out hz
  have HC:=Lib.hid hcall
  have HCAT:=Lib.hid hcat
  have HFE:=Lib.hid hFe
  clear hcall hcat hFe hz
  go_wp2_with fail
  refine (HC.out _ HCAT.out).mono ?_;rintro e w2 ⟨v2,rfl,HO2,HG2⟩
  go_wp2_with fail
  go_ret
  exact ⟨v2,rfl,HO2.out.cast (by rw [HFE.out]),HG0.out.trans HG2.out⟩
 have b5:((xk:Int) == 5)=false:=by rw [beq_eq_false_iff_ne];omega
 have b5':¬ (xk:Int)=5:=by omega
 by_cases h6:xk=6
 ·subst h6
  have hFe:F=[[101,120,99,101,112,116,105,111,110,32]++xn,[32,123,10]].flatten++(ff.flatMap fun y=>[32,32]++fieldF tenS sh y++[44,10])++[125,10]:=by
   rw [hfd,(hn7 (by decide)).1,(hn7 (by decide)).2,hn2 (by decide),flds_is];simp [wordD]
  have hz:(xs.length:Int)+(([101,120,99,101,112,116,105,111,110,32]++xn:List UInt8).length:Int)+((ff.flatMap fun y=>[32,32]++fieldF tenS sh y++[44,10]).length:Int)≤63995:=by
   have:=HLEN.out;rw [hFe] at this;simp only [List.length_append,List.length_cons,List.length_nil,List.flatten_cons,List.flatten_nil] at this ⊢;omega
  have hszn:(xn.length:Int)+10≤1000000000:=by simp only [List.length_append] at hz;omega
  have hcat:Tx ((⟨#[101,120,99,101,112,116,105,111,110,32]⟩:ByteArray)++⟨xn.toArray⟩) ([101,120,99,101,112,116,105,111,110,32]++xn):=(Tx.of [101,120,99,101,112,116,105,111,110,32]).cat (Tx.of xn)
  have hsz1:(⟨xn.toArray⟩:ByteArray).size=xn.length:=(Tx.of xn).size
  have hcall:=fun hs (hh:Tx hs ([101,120,99,101,112,116,105,111,110,32]++xn))=>blockFld_any HSH.out B W v (.slice fA ff.length fc) xs ([101,120,99,101,112,116,105,111,110,32]++xn) hs ff HO.out HTW.out hh (HRF.out.gw HG0.out) hfl HOF.out hz
  have HC:=Lib.hid hcall
  have HCAT:=Lib.hid hcat
  have HFE:=Lib.hid hFe
  clear hcall hcat hFe hz
  go_wp2_with fail
  refine (HC.out _ HCAT.out).mono ?_;rintro e w2 ⟨v2,rfl,HO2,HG2⟩
  go_wp2_with fail
  go_ret
  exact ⟨v2,rfl,HO2.out.cast (by rw [HFE.out]),HG0.out.trans HG2.out⟩
 have b6:((xk:Int) == 6)=false:=by rw [beq_eq_false_iff_ne];omega
 have b6':¬ (xk:Int)=6:=by omega
 obtain rfl:xk=7:=by omega
 obtain rfl:fm=[]:=hn2 (by decide)
 obtain rfl:ff=[]:=hn4 (by decide) (by decide) (by decide)
 obtain ⟨X,hX⟩:∃ X:List UInt8,Hid ((if xe=[] then [] else [32,101,120,116,101,110,100,115,32]++xe)=X):=⟨_,Lib.hid rfl⟩
 have hFe:F=[[115,101,114,118,105,99,101,32]++xn++X,[32,123,10]].flatten++(ft.flatMap fun y=>[32,32]++methG sh y++[44,10])++[125,10]:=by
  rw [hfd,hX.out,mets_is];simp [wordD]
 have hz:(xs.length:Int)+(([115,101,114,118,105,99,101,32]++xn++X:List UInt8).length:Int)+((ft.flatMap fun y=>[32,32]++methG sh y++[44,10]).length:Int)≤63995:=by
  have:=HLEN.out;rw [hFe] at this;simp only [List.length_append,List.length_cons,List.length_nil,List.flatten_cons,List.flatten_nil] at this ⊢;omega
 have hszn:(xn.length:Int)+X.length+8≤1000000000:=by simp only [List.length_append] at hz;omega
 have HSZ:=Lib.hid hszn
 have hcall:=fun hs (hh:Tx hs ([115,101,114,118,105,99,101,32]++xn++X))=>blockMet_any HSH.out B W v (.slice tA ft.length tc) xs ([115,101,114,118,105,99,101,32]++xn++X) hs ft HO.out HTW.out hh (HRT.out.gw HG0.out) htl HOT.out hz
 have HC:=Lib.hid hcall
 have HFE:=Lib.hid hFe
 obtain ⟨Se,hSe⟩:∃ S:ByteArray,(⟨xe.toArray⟩:ByteArray)=S:=⟨_,rfl⟩
 have HTe:Hid (Tx Se xe):=by rw [← hSe];exact Tx.of _
 simp only [hSe] at c10 ⊢
 have hszx:((⟨xn.toArray⟩:ByteArray).size)=xn.length:=(Tx.of xn).size
 clear hcall hFe hz hSe hszn hfd hn7 hn2 hn4 h1 h3 h2 h4 h5 h6 hfl hml
 cases xe with
 | nil =>
  obtain ⟨hne,hne2⟩:=HTe.out.nil
  have hXe:X=[]:=by rw [← hX.out];rfl
  have HCAT:Hid (Tx ((⟨#[115,101,114,118,105,99,101,32]⟩:ByteArray)++⟨xn.toArray⟩) ([115,101,114,118,105,99,101,32]++xn++X)):=by unfold Hid;rw [hXe,List.append_nil];exact (Tx.of _).cat (Tx.of xn)
  have hs1:(xn.length:Int)+8≤1000000000:=by have:=HSZ.out;omega
  clear hXe
  go_wp2_with fail
  refine (HC.out _ HCAT.out).mono ?_;rintro e w2 ⟨v2,rfl,HO2,HG2⟩
  go_wp2_with fail
  go_ret
  exact ⟨v2,rfl,HO2.out.cast (by rw [HFE.out]),HG0.out.trans HG2.out⟩
 | cons ec er =>
  obtain ⟨hp0,t0',-,-,-,hne,hne2⟩:=HTe.out.cons
  have hSel:Se.size=er.length+1:=by rw [HTe.out.size];rfl
  have hXe:X=[32,101,120,116,101,110,100,115,32]++(ec :: er):=by rw [← hX.out,if_neg (by simp)]
  have HCAT:Hid (Tx (((⟨#[115,101,114,118,105,99,101,32]⟩:ByteArray)++⟨xn.toArray⟩)++((⟨#[32,101,120,116,101,110,100,115,32]⟩:ByteArray)++Se)) ([115,101,114,118,105,99,101,32]++xn++X)):=by unfold Hid;rw [hXe];exact ((Tx.of _).cat (Tx.of xn)).cat ((Tx.of _).cat HTe.out)
  have hs1:8+xn.length+(9+(er.length+1))≤1000000000:=by have:=HSZ.out;rw [hXe] at this;simp only [List.length_append,List.length_cons,List.length_nil] at this;omega
  clear hXe
  go_wp2_with fail
  refine (HC.out _ HCAT.out).mono ?_;rintro e w2 ⟨v2,rfl,HO2,HG2⟩
  go_wp2_with fail
  go_ret
  exact ⟨v2,rfl,HO2.out.cast (by rw [HFE.out]),HG0.out.trans HG2.out⟩
end Go.Proofs.YtjggghfekakogaaGreatDoor
