/- The contract of scope.Const. -/
import Derived.Test.YtpfecpcgdfbekaaGreatDoorG34
set_option linter.unusedVariables false
set_option linter.unusedSimpArgs false
set_option linter.unnecessarySimpa false
namespace Go.Proofs.YtpfecpcgdfbekaaGreatDoor
open Go.RowKit
theorem results_const {P:Program} {fn:Func} {p a b c d0:Tmp} {ty:TypeId} (h:fn.results=#[.tmp a,.cell p ty,.tmp b,.tmp c,.tmp d0]) (tmps:Array Value) (w:World) (g:Nat) (t:TypeId) (cs:Array Value) (fr:Nat×Nat) (d:TypeDesc)
  (hp:tmps.getD p undef = .pointer (some ⟨g,0,none⟩)) (hg:w.heap[g]? = some (.cells cs t fr))
  (hu:P.underlying ty=some d) (hd:(match d with | .struct _ | .array _ _=>true | _=>false)=true) (hi:(P.info? ty).map (·.size)=some cs.size) :
  (results fn tmps).run P w = .ok (.tuple #[tmps.getD a undef,.agg cs,tmps.getD b undef,tmps.getD c undef,tmps.getD d0 undef]) w:=by
 have hp':tmps[p]?.getD undef = .pointer (some ⟨g,0,none⟩):=by simpa using hp
 simp [results,h,hp',asAddr,run_loadVar_row w g t ty cs fr d hg hu hd hi]
theorem defF0 (dk xk xd:Nat) (xn:Int) (dn dt s de:List UInt8) (zA fA2 mA tA:Option Addr) (zu zc fu fc2 mu mc tu tc:Nat) (w:World) :
  (Instr.field 56 (.agg #[.int .i64 (dk:Int),.string ⟨dn.toArray⟩,.string ⟨dt.toArray⟩,.int .i64 (xk:Int),.int .i64 xn,.int .u64 (xd:Int),.string ⟨s.toArray⟩,.slice zA zu zc,.slice fA2 fu fc2,.slice mA mu mc,.string ⟨de.toArray⟩,.slice tA tu tc]) 0).run Tryz.prog w = .ok (.int .i64 (dk:Int)) w:=by
 have hu:=run_underlying (P:=Tryz.prog) Tryz.underlying56 w
 unfold Instr.field;simp [Sem.run_bind,hu,Result.andThen_ok,asAgg];exact run_part_plain _ (by kernel_rfl) rfl
def kindO (o:Option Dfn):Nat:=match o with
 | none=>0
 | some d=>d.k
def notC (files:List Fil):Pl→Bool
 | none=>true
 | some (i,j)=>!decide (kindO (defO files i j)=3)
def constO (names:List (List UInt8)) (files:List Fil) (own ref:List UInt8):Pl→Mp3
 | none=>findMP names files own ref
 | some (i,j)=>if kindO (defO files i j)=3 then some ((i,j),[]) else findMP names files own ref
def constP (names:List (List UInt8)) (files:List Fil) (own ref:List UInt8):Mp3:=constO names files own ref (findP names files own ref)
theorem findMP_ok {names:List (List UInt8)} {files:List Fil} {own ref:List UInt8} {i:Int} {j:Nat} {mb:List UInt8} (h:findMP names files own ref=some ((i,j),mb)):(∃ (k:Nat) (hk:k<files.length),i=(k:Int)∧j<files[k].defs.length)∧mb.length≤ref.length:=by
 unfold findMP at h
 cases hp:lastD ref with
 | none=>rw [hp] at h;cases h
 | some p =>
  rw [hp] at h
  have h:mbrP files (findP names files own (ref.take p)) (ref.drop (p+1))=some ((i,j),mb):=h
  cases hq:findP names files own (ref.take p) with
  | none=>rw [hq] at h;cases h
  | some P =>
   obtain ⟨pi,pj⟩:=P
   rw [hq] at h
   unfold mbrP at h
   dsimp only at h
   split at h
   ·cases h
   ·split at h
    ·cases h
     exact ⟨findP_ok hq,by simp⟩
    ·cases h
def ConstR (names:List (List UInt8)) (files:List Fil) (P:Mp3) (e:Ending):Prop:=match P with
 | none=>e = .returned (.tuple #[.string ⟨#[]⟩,.agg #[.int .i64 0,.string ⟨#[]⟩,.string ⟨#[]⟩,.int .i64 0,.int .i64 0,.int .u64 0,.string ⟨#[]⟩,.slice none 0 0,.slice none 0 0,.slice none 0 0,.string ⟨#[]⟩,.slice none 0 0],.string ⟨#[]⟩,.string ⟨#[]⟩,.int .i64 7])
 | some ((i,j),mb)=>∃ z nm d,e = .returned (.tuple #[bt (nm++[46]++d.nm),.agg (dfnA z),bt mb,bt nm,.int .i64 0])∧PlOk files i j d∧names[i.toNat]? = some nm∧z.k=d.k∧z.nm=d.nm∧z.ty=d.ty∧IsSl z.ini.l∧IsSl z.fields∧IsSl z.mems∧IsSl z.mets
section
variable {w:World} {nA fA:Option Addr} {n nc fc:Nat} {names:List (List UInt8)} {files:List Fil}
set_option maxRecDepth 100000 in
set_option maxHeartbeats 6400000 in
theorem Const_any (h:Ldn w nA fA n nc fc names files) (own ref:List UInt8) (hr:ref.length≤8000) (hm:MaxC w) :
  Calls Tryz.prog 15 #[.agg #[.slice nA n nc,.slice fA n fc],.string ⟨own.toArray⟩,.string ⟨ref.toArray⟩] w fun e w'=>ConstR names files (constP names files own ref) e∧Nx w w':=by
 have HL:=Lib.hid h
 have HRL:=Lib.hid hr
 have HMX:=Lib.hid hm
 obtain ⟨P0,hP0⟩:∃ R,findP names files own ref=R:=⟨_,rfl⟩
 obtain ⟨R,hR⟩:∃ R,constP names files own ref=R:=⟨_,rfl⟩
 have HRE:Hid (R=constO names files own ref P0):=by unfold Hid;rw [← hR,← hP0];rfl
 have HP0:=Lib.hid hP0
 have HOK:Hid (∀ i j mb,R=some ((i,j),mb)→(∃ (k:Nat) (hk:k<files.length),i=(k:Int)∧j<files[k].defs.length)∧mb.length≤140737488355328):=by
  intro i j mb h2
  rw [HRE.out] at h2
  have hf:findMP names files own ref=some ((i,j),mb)→(∃ (k:Nat) (hk:k<files.length),i=(k:Int)∧j<files[k].defs.length)∧mb.length≤140737488355328:=fun h=>⟨(findMP_ok h).1,by have:=(findMP_ok h).2;have:=HRL.out;omega⟩
  cases hp:P0 with
  | none=>rw [hp] at h2;exact hf h2
  | some P =>
   obtain ⟨pi,pj⟩:=P
   rw [hp] at h2
   have h2:(if kindO (defO files pi pj)=3 then some ((pi,pj),[]) else findMP names files own ref)=some ((i,j),mb):=h2
   split at h2
   ·cases h2
    rw [hp] at HP0
    exact ⟨findP_ok HP0.out,by simp⟩
   ·exact hf h2
 rw [hR]
 obtain ⟨gx,hgx⟩:∃ g,w.heap.size=g:=⟨_,rfl⟩
 obtain ⟨gr,hgr⟩:∃ g,gx+1=g:=⟨_,rfl⟩
 obtain ⟨w1,hw⟩:∃ w1,(w.alloc (.cells #[.slice nA n nc,.slice fA n fc] 39)).alloc (.cells #[.int .i64 0,.string ⟨#[]⟩,.string ⟨#[]⟩,.int .i64 0,.int .i64 0,.int .u64 0,.string ⟨#[]⟩,.slice none 0 0,.slice none 0 0,.slice none 0 0,.string ⟨#[]⟩,.slice none 0 0] 56)=w1:=⟨_,rfl⟩
 have HBX:Hid (Blk w1 gx gx #[.slice nA n nc,.slice fA n fc] 39):=by
  unfold Hid;rw [← hw,← hgx];exact (Blk.new w _ _).alloc _
 have HBR:Hid (Blk w1 gx gr #[.int .i64 0,.string ⟨#[]⟩,.string ⟨#[]⟩,.int .i64 0,.int .i64 0,.int .u64 0,.string ⟨#[]⟩,.slice none 0 0,.slice none 0 0,.slice none 0 0,.string ⟨#[]⟩,.slice none 0 0] 56):=by
  unfold Hid;rw [← hw,← hgr,← hgx,show w.heap.size+1=(w.alloc (.cells #[.slice nA n nc,.slice fA n fc] 39)).heap.size from by simp]
  exact (Blk.new (w.alloc (.cells #[.slice nA n nc,.slice fA n fc] 39)) _ _).less (by simp)
 have HN1:Hid (Nx w w1):=by unfold Hid;rw [← hw];exact Nx.al (nx0 w _) _
 have hgw:Hid (w.heap.size≤gr):=by unfold Hid;omega
 have HSO:=Lib.hid (scopeOf_any (h.nx HN1.out) own)
 clear h hr hm hR hP0
 go_enter Tryz.func15,Tryz.ntmps15
 go_upto_region 1 with (fail)
 try rw [hw]
 clear hw hgx hgr
 have x0:w1.cell? ⟨gx,0,none⟩=some (.slice nA n nc):=HBX.out.cell 0
 have x1:w1.cell? ⟨gx,1,none⟩=some (.slice fA n fc):=HBX.out.cell 1
 go_wp2_with fail
 refine HSO.out.mono ?_;rintro e w2 ⟨gm,rfl,hs2,hn2⟩
 obtain ⟨g3,hg3⟩:∃ g,w2.heap.size=g:=⟨_,rfl⟩
 obtain ⟨w3,hw3⟩:∃ w3,w2.alloc (.cells #[.slice nA n nc,.slice fA n fc,.string ⟨own.toArray⟩,.map (some gm)] 88)=w3:=⟨_,rfl⟩
 have HB3:Hid (Blk w3 g3 g3 #[.slice nA n nc,.slice fA n fc,.string ⟨own.toArray⟩,.map (some gm)] 88):=by unfold Hid;rw [← hw3,← hg3];exact Blk.new w2 _ _
 have hn3:Nx w2 w3:=by rw [← hw3];exact nx0 _ _
 have HS3:=Lib.hid (hs2.nx hn3)
 have HN3:=Lib.hid (HN1.out.trans (hn2.trans hn3))
 have HBR3:=Lib.hid (HBR.out.below (hn2.trans hn3))
 have HFI:=Lib.hid (find_any HS3.out own ref HRL.out (HMX.out.nx HN3.out))
 have k0:w3.cell? ⟨g3,0,none⟩=some (.slice nA n nc):=HB3.out.cell 0
 have k1:w3.cell? ⟨g3,1,none⟩=some (.slice fA n fc):=HB3.out.cell 1
 have k2:w3.cell? ⟨g3,2,none⟩=some (.string ⟨own.toArray⟩):=HB3.out.cell 2
 have k3:w3.cell? ⟨g3,3,none⟩=some (.map (some gm)):=HB3.out.cell 3
 clear hs2 hn2 hn3 x0 x1
 go_wp2_with fail
 clear hw3 hg3
 refine HFI.out.mono ?_;rw [HP0.out];rintro e w4 ⟨rfl,hn4⟩
 have HN4:=Lib.hid (HN3.out.trans hn4)
 have HB4:=Lib.hid (HB3.out.below hn4)
 have HS4:=Lib.hid (HS3.out.nx hn4)
 have HBR4:=Lib.hid (HBR3.out.below hn4)
 clear k0 k1 k2 k3 hn4 HFI
 obtain ⟨⟨gi,gj⟩,hgv⟩:∃ p,P0.getD (0,0)=p:=⟨_,rfl⟩
 have HGV:Hid (plV P0 = .agg #[.int .i64 gi,.int .i64 (gj:Int)]):=by unfold Hid plV;rw [hgv]
 have HGD:=Lib.hid hgv
 rw [HGV.out]
 obtain ⟨g5,hg5⟩:∃ g,w4.heap.size=g:=⟨_,rfl⟩
 obtain ⟨w5,hw5⟩:∃ w5,w4.alloc (.cells #[.int .i64 gi,.int .i64 (gj:Int)] 91)=w5:=⟨_,rfl⟩
 have HB5:Hid (Blk w5 g5 g5 #[.int .i64 gi,.int .i64 (gj:Int)] 91):=by unfold Hid;rw [← hw5,← hg5];exact Blk.new w4 _ _
 have hn5:Nx w4 w5:=by rw [← hw5];exact nx0 _ _
 have HN5:=Lib.hid (HN4.out.trans hn5)
 have HS5:=Lib.hid (HS4.out.nx hn5)
 have HBR5:=Lib.hid (HBR4.out.below hn5)
 have HK5:=Lib.hid (HB4.out.below hn5)
 have HW5:Hid (w.heap.size≤g5):=by unfold Hid;rw [← hg5];exact HN4.out.size
 have HNE:Hid (g3<g5):=by unfold Hid;rw [← hg5];exact HB4.out.lt
 have HNR:Hid (gr<g5):=by unfold Hid;rw [← hg5];exact HBR4.out.lt
 have HGM4:Hid (gm<g5):=by unfold Hid;rw [← hg5];exact HS4.out.mp.lt
 clear hgv hn5
 go_upto_region 3 with (fail)
 clear hw5 hg5
 obtain ⟨C,hC⟩:∃ C:Bool,Hid (notC files P0=C):=⟨_,rfl⟩
 go_cut [31] (fun v wx=>v = .bool C∧Nx w5 wx)
 case first =>
  have k0:w5.cell? ⟨g3,0,none⟩=some (.slice nA n nc):=HK5.out.cell 0
  have k1:w5.cell? ⟨g3,1,none⟩=some (.slice fA n fc):=HK5.out.cell 1
  have k2:w5.cell? ⟨g3,2,none⟩=some (.string ⟨own.toArray⟩):=HK5.out.cell 2
  have k3:w5.cell? ⟨g3,3,none⟩=some (.map (some gm)):=HK5.out.cell 3
  have p0:w5.cell? ⟨g5,0,none⟩=some (.int .i64 gi):=HB5.out.cell 0
  have p1:w5.cell? ⟨g5,1,none⟩=some (.int .i64 (gj:Int)):=HB5.out.cell 1
  cases P0 with
  | none =>
   have hc:C=true:=hC.out.symm
   subst hc
   go_wp2_with fail
   go_meet
   exact ⟨rfl,Nx.refl _⟩
  | some P =>
   obtain ⟨pi,pj⟩:=P
   obtain ⟨rfl,rfl⟩:pi=gi∧pj=gj:=Prod.mk.inj HGD.out
   obtain ⟨k,hk,rfl,hj⟩:=findP_ok HP0.out
   have hpl:PlOk files (k:Int) pj files[k].defs[pj]:=⟨k,hk,rfl,hj,rfl⟩
   have hdo:=defO_at hk hj
   obtain ⟨d,hd⟩:∃ d,files[k].defs[pj]=d:=⟨_,rfl⟩
   rw [hd] at hpl hdo
   have HSD:=Lib.hid (sdef_any HS5.out own (k:Int) pj d hpl)
   have hCC:(!decide (kindO (defO files (k:Int) pj)=3))=C:=hC.out
   rw [hdo] at hCC
   have HCC:Hid ((!decide (d.k=3))=C):=hCC
   clear hk hj hpl hd hdo hCC hC
   go_wp2_with fail
   refine HSD.out.mono ?_;rintro e w9 ⟨x,rfl,hx,hn9⟩
   obtain ⟨dk,dn,dt,⟨xk,xn,xd,s,xl⟩,xf,xm,de,xt⟩:=x
   obtain ⟨⟨zA,zu,zc,hxl⟩,⟨fA2,fu,fc2,hxf⟩,⟨mA,mu,mc,hxm⟩,⟨tA,tu,tc,hxt⟩⟩:=rd_sl hx
   have hdk:dk=d.k:=hx.1
   dsimp only at hxl hxf hxm hxt
   subst hxl hxf hxm hxt
   rw [show dfnA ⟨dk,dn,dt,⟨xk,xn,xd,s,.slice zA zu zc⟩,.slice fA2 fu fc2,.slice mA mu mc,de,.slice tA tu tc⟩=#[.int .i64 (dk:Int),.string ⟨dn.toArray⟩,.string ⟨dt.toArray⟩,.int .i64 (xk:Int),.int .i64 xn,.int .u64 (xd:Int),.string ⟨s.toArray⟩,.slice zA zu zc,.slice fA2 fu fc2,.slice mA mu mc,.string ⟨de.toArray⟩,.slice tA tu tc] from rfl]
   have hf0:=defF0 dk xk xd xn dn dt s de zA fA2 mA tA zu zc fu fc2 mu mc tu tc w9
   have HN9:=Lib.hid hn9
   by_cases h3:dk=3
   ·have b1:((dk:Int) != 3)=false:=by rw [h3];rfl
    have hc:C=false:=by rw [← HCC.out,← hdk,h3];rfl
    subst hc
    clear h3 hdk hx hn9
    go_wp2_with fail
    go_meet
    exact ⟨rfl,HN9.out⟩
   ·have b1:((dk:Int) != 3)=true:=by rw [bne_iff_ne];omega
    have hc:C=true:=by rw [← HCC.out,← hdk,decide_eq_false h3];rfl
    subst hc
    clear h3 hdk hx hn9
    go_wp2_with fail
    go_meet
    exact ⟨rfl,HN9.out⟩
 case rest =>
 obtain ⟨rfl,hnx⟩:=hcut
 have HN6:=Lib.hid (HN5.out.trans hnx)
 have HS6:=Lib.hid (HS5.out.nx hnx)
 have HBR6:=Lib.hid (HBR5.out.below hnx)
 have HK6:=Lib.hid (HK5.out.below hnx)
 have HP6:=Lib.hid (HB5.out.below hnx)
 have HRC:Hid (R=if C then findMP names files own ref else P0.map fun p=>(p,[])):=by
  unfold Hid
  rw [HRE.out]
  have:=hC.out
  cases P0 with
  | none=>have this:true=C:=this;rw [← this];rfl
  | some P =>
   obtain ⟨pi,pj⟩:=P
   have this:(!decide (kindO (defO files pi pj)=3))=C:=this
   show (if kindO (defO files pi pj)=3 then some ((pi,pj),[]) else findMP names files own ref)=_
   by_cases h3:kindO (defO files pi pj)=3
   ·rw [if_pos h3];rw [decide_eq_true h3] at this;rw [← this];rfl
   ·rw [if_neg h3];rw [decide_eq_false h3] at this;rw [← this];rfl
 have HCE:Hid (P0=none→C=true):=by
  intro h
  rw [← hC.out,h];rfl
 have HGM5:Hid (gm<g5):=by unfold Hid;exact HGM4.out
 clear hnx HRE hC
 obtain ⟨⟨ri,rj⟩,hrv⟩:∃ p,(R.map (·.1)).getD (0,0)=p:=⟨_,rfl⟩
 obtain ⟨RM,hRM⟩:∃ m,(R.map (·.2)).getD []=m:=⟨_,rfl⟩
 obtain ⟨RS,hRS⟩:∃ b,R.isSome=b:=⟨_,rfl⟩
 have HRV:=Lib.hid hrv
 have HRMe:=Lib.hid hRM
 have HRSe:=Lib.hid hRS
 clear hrv hRM hRS
 go_upto_if 31 with (fail)
 go_cut [8,13] (fun v b wx=>v = .string ⟨RM.toArray⟩∧b = .bool RS∧Nx w wx∧Scp wx nA fA n nc fc gm names files∧Blk wx gx gr #[.int .i64 0,.string ⟨#[]⟩,.string ⟨#[]⟩,.int .i64 0,.int .i64 0,.int .u64 0,.string ⟨#[]⟩,.slice none 0 0,.slice none 0 0,.slice none 0 0,.string ⟨#[]⟩,.slice none 0 0] 56∧Blk wx g3 g3 #[.slice nA n nc,.slice fA n fc,.string ⟨own.toArray⟩,.map (some gm)] 88∧(RS=true→Blk wx g5 g5 #[.int .i64 ri,.int .i64 (rj:Int)] 91))
 case first =>
  cases C with
  | false =>
   cases P0 with
   | none =>
    exfalso
    have:=HCE.out rfl
    cases this
   | some P =>
    have hr:R=some (P,[]):=by rw [HRC.out];rfl
    have h1:(ri,rj)=P:=by rw [← HRV.out,hr];rfl
    have h2:RM=[]:=by rw [← HRMe.out,hr];rfl
    have h3:RS=true:=by rw [← HRSe.out,hr];rfl
    subst h2 h3
    have h4:(gi,gj)=(ri,rj):=by rw [h1];exact HGD.out.symm
    have H4:=Lib.hid h4
    clear hr h1 h4
    go_wp2_with fail
    go_meet
    refine ⟨rfl,rfl,HN6.out,HS6.out,HBR6.out,HK6.out,fun _=>?_⟩
    cases H4.out
    exact HP6.out
  | true =>
   have hr:R=findMP names files own ref:=by rw [HRC.out];rfl
   have hcall:=findMember_any HS6.out own ref HRL.out (HMX.out.nx HN6.out)
   rw [← hr] at hcall
   have hmv:mpV R = .tuple #[.agg #[.int .i64 ri,.int .i64 (rj:Int)],.string ⟨RM.toArray⟩,.bool RS]:=by
    unfold mpV plV bt
    rw [HRV.out,HRMe.out,HRSe.out]
   rw [hmv] at hcall
   have HCA:=Lib.hid hcall
   have k0:wc.cell? ⟨g3,0,none⟩=some (.slice nA n nc):=HK6.out.cell 0
   have k1:wc.cell? ⟨g3,1,none⟩=some (.slice fA n fc):=HK6.out.cell 1
   have k2:wc.cell? ⟨g3,2,none⟩=some (.string ⟨own.toArray⟩):=HK6.out.cell 2
   have k3:wc.cell? ⟨g3,3,none⟩=some (.map (some gm)):=HK6.out.cell 3
   clear hr hcall hmv
   go_wp2_with fail
   refine HCA.out.mono ?_;rintro e w7 ⟨rfl,hn7⟩
   have hp7:=HP6.out.below hn7
   have HP7:=Lib.hid hp7
   have HN7:=Lib.hid (HN6.out.trans hn7)
   have HS7:=Lib.hid (HS6.out.nx hn7)
   have HBR7:=Lib.hid (HBR6.out.below hn7)
   have HK7:=Lib.hid (HK6.out.below hn7)
   have p0:w7.cell? ⟨g5,0,none⟩=some (.int .i64 gi):=hp7.cell 0
   have p1:w7.cell? ⟨g5,1,none⟩=some (.int .i64 (gj:Int)):=hp7.cell 1
   have f0:=hp7.free 0
   have f1:=hp7.free 1
   have HCG:Hid (gm<g5):=HGM5.out
   clear hp7 hn7 k0 k1 k2 k3 HCA
   go_wp2_with fail
   go_meet
   refine ⟨rfl,rfl,(HN7.out.put' HW5.out 0 _).put' HW5.out 1 _,⟨HL.out.nx ((HN7.out.put' HW5.out 0 _).put' HW5.out 1 _),HS7.out.mp.keep ?_⟩,(HBR7.out.other (by have:=HNR.out;omega) 0 _).other (by have:=HNR.out;omega) 1 _,(HK7.out.other (by have:=HNE.out;omega) 0 _).other (by have:=HNE.out;omega) 1 _,fun _=>(HP7.out.put 0 _).put 1 _⟩
   have:=HCG.out
   simp only [World.setCell]
   rw [Array.getElem?_modify,if_neg (by show ¬ g5=gm;omega),Array.getElem?_modify,if_neg (by show ¬ g5=gm;omega)]
 case rest =>
 obtain ⟨rfl,rfl,hn8,hs8,hbr8,hk8,hp8⟩:=hcut
 have HN8:=Lib.hid hn8
 have HS8:=Lib.hid hs8
 have HBR8:=Lib.hid hbr8
 have y0:wc.cell? ⟨gr,0,none⟩=some (.int .i64 0):=hbr8.cell 0
 have y1:wc.cell? ⟨gr,1,none⟩=some (.string ⟨#[]⟩):=hbr8.cell 1
 have y2:wc.cell? ⟨gr,2,none⟩=some (.string ⟨#[]⟩):=hbr8.cell 2
 have y3:wc.cell? ⟨gr,3,none⟩=some (.int .i64 0):=hbr8.cell 3
 have y4:wc.cell? ⟨gr,4,none⟩=some (.int .i64 0):=hbr8.cell 4
 have y5:wc.cell? ⟨gr,5,none⟩=some (.int .u64 0):=hbr8.cell 5
 have y6:wc.cell? ⟨gr,6,none⟩=some (.string ⟨#[]⟩):=hbr8.cell 6
 have y7:wc.cell? ⟨gr,7,none⟩=some (.slice none 0 0):=hbr8.cell 7
 have y8:wc.cell? ⟨gr,8,none⟩=some (.slice none 0 0):=hbr8.cell 8
 have y9:wc.cell? ⟨gr,9,none⟩=some (.slice none 0 0):=hbr8.cell 9
 have y10:wc.cell? ⟨gr,10,none⟩=some (.string ⟨#[]⟩):=hbr8.cell 10
 have y11:wc.cell? ⟨gr,11,none⟩=some (.slice none 0 0):=hbr8.cell 11
 have r0:=hbr8.free 0
 have r1:=hbr8.free 1
 have r2:=hbr8.free 2
 have r3:=hbr8.free 3
 have r4:=hbr8.free 4
 have r5:=hbr8.free 5
 have r6:=hbr8.free 6
 have r7:=hbr8.free 7
 have r8:=hbr8.free 8
 have r9:=hbr8.free 9
 have r10:=hbr8.free 10
 have r11:=hbr8.free 11
 cases RS with
 | false =>
  have hr:R=none:=by
   have:=HRSe.out
   cases R with
   | none=>rfl
   | some _=>cases this
  clear hbr8 hk8 hp8 hn8 hs8
  go_wp2_with fail
  refine bodyPost_ret (results_const rfl _ _ gr _ _ _ _ rfl (HBR8.out.putAll [.int .i64 0,.string ⟨#[]⟩,.string ⟨#[]⟩,.int .i64 0,.int .i64 0,.int .u64 0,.string ⟨#[]⟩,.slice none 0 0,.slice none 0 0,.slice none 0 0,.string ⟨#[]⟩,.slice none 0 0] rfl).2 Tryz.underlying56 rfl (by kernel_rfl)) rfl ?_
  rw [hr]
  exact ⟨rfl,HN8.out.puts hgw.out [.int .i64 0,.string ⟨#[]⟩,.string ⟨#[]⟩,.int .i64 0,.int .i64 0,.int .u64 0,.string ⟨#[]⟩,.slice none 0 0,.slice none 0 0,.slice none 0 0,.string ⟨#[]⟩,.slice none 0 0] 0⟩
 | true =>
  obtain ⟨hr,-⟩:R=some ((ri,rj),RM)∧True:=by
   have h1:=HRSe.out
   have h2:=HRV.out
   have h3:=HRMe.out
   cases R with
   | none=>cases h1
   | some p =>
    obtain ⟨q,m⟩:=p
    have h2:q=(ri,rj):=h2
    have h3:m=RM:=h3
    rw [h2,h3]
    exact ⟨rfl,trivial⟩
  obtain ⟨⟨k,hk,hri,hj⟩,hml⟩:=HOK.out ri rj RM hr
  subst hri
  have HR8:=Lib.hid hr
  have HML:=Lib.hid hml
  have hkn:k<names.length:=by rw [HL.out.ln,← HL.out.lf];exact hk
  obtain ⟨nm,hnm⟩:∃ nm,names[k]=nm:=⟨_,rfl⟩
  obtain ⟨d,hd⟩:∃ d,files[k].defs[rj]=d:=⟨_,rfl⟩
  have hpl:PlOk files (k:Int) rj d:=⟨k,hk,rfl,hj,hd⟩
  have hdb:dfnB d=true:=(HL.out.parts.2.2 _ (List.getElem_mem hk)).2.2 d (hd ▸ List.getElem_mem hj)
  have HAN:=Lib.hid (answer_any HS8.out own k rj d hpl nm hkn hnm hdb)
  have HPL:=Lib.hid hpl
  have HNM:Hid (names[(k:Int).toNat]? = some nm):=by unfold Hid;rw [Int.toNat_natCast,List.getElem?_eq_getElem hkn,hnm]
  have hp8:=hp8 rfl
  have k0:wc.cell? ⟨g3,0,none⟩=some (.slice nA n nc):=hk8.cell 0
  have k1:wc.cell? ⟨g3,1,none⟩=some (.slice fA n fc):=hk8.cell 1
  have k2:wc.cell? ⟨g3,2,none⟩=some (.string ⟨own.toArray⟩):=hk8.cell 2
  have k3:wc.cell? ⟨g3,3,none⟩=some (.map (some gm)):=hk8.cell 3
  have p0:wc.cell? ⟨g5,0,none⟩=some (.int .i64 (k:Int)):=hp8.cell 0
  have p1:wc.cell? ⟨g5,1,none⟩=some (.int .i64 (rj:Int)):=hp8.cell 1
  clear hbr8 hk8 hp8 hn8 hs8 hk hj hkn hnm hd hpl hdb hr hml y0 r0 y1 r1 y2 r2 y3 r3 y4 r4 y5 r5 y6 r6 y7 r7 y8 r8 y9 r9 y10 r10 y11 r11
  go_wp2_with fail
  refine HAN.out.mono ?_;rintro e w6 ⟨⟨dk,dn,dt,⟨xk,xn,xd,s,xl⟩,xf,xm,de,xt⟩,rfl,hz1,hz2,hz3,⟨zA,zu,zc,hxl⟩,⟨fA2,fu,fc2,hxf⟩,⟨mA,mu,mc,hxm⟩,⟨tA,tu,tc,hxt⟩,hn6⟩
  dsimp only at hz1 hz2 hz3 hxl hxf hxm hxt
  subst hxl hxf hxm hxt
  rw [show dfnA ⟨dk,dn,dt,⟨xk,xn,xd,s,.slice zA zu zc⟩,.slice fA2 fu fc2,.slice mA mu mc,de,.slice tA tu tc⟩=#[.int .i64 (dk:Int),.string ⟨dn.toArray⟩,.string ⟨dt.toArray⟩,.int .i64 (xk:Int),.int .i64 xn,.int .u64 (xd:Int),.string ⟨s.toArray⟩,.slice zA zu zc,.slice fA2 fu fc2,.slice mA mu mc,.string ⟨de.toArray⟩,.slice tA tu tc] from rfl]
  unfold bt
  have HZ:Hid (dk=d.k∧dn=d.nm∧dt=d.ty):=⟨hz1,hz2,hz3⟩
  obtain ⟨WH,hWH⟩:∃ l,nm++[46]++d.nm=l:=⟨_,rfl⟩
  have HWH:=Lib.hid hWH
  rw [hWH]
  have hb6:=HBR8.out.below hn6
  have HB6:=Lib.hid hb6
  have HN6:=Lib.hid (HN8.out.trans hn6)
  have y0:w6.cell? ⟨gr,0,none⟩=some (.int .i64 0):=hb6.cell 0
  have y1:w6.cell? ⟨gr,1,none⟩=some (.string ⟨#[]⟩):=hb6.cell 1
  have y2:w6.cell? ⟨gr,2,none⟩=some (.string ⟨#[]⟩):=hb6.cell 2
  have y3:w6.cell? ⟨gr,3,none⟩=some (.int .i64 0):=hb6.cell 3
  have y4:w6.cell? ⟨gr,4,none⟩=some (.int .i64 0):=hb6.cell 4
  have y5:w6.cell? ⟨gr,5,none⟩=some (.int .u64 0):=hb6.cell 5
  have y6:w6.cell? ⟨gr,6,none⟩=some (.string ⟨#[]⟩):=hb6.cell 6
  have y7:w6.cell? ⟨gr,7,none⟩=some (.slice none 0 0):=hb6.cell 7
  have y8:w6.cell? ⟨gr,8,none⟩=some (.slice none 0 0):=hb6.cell 8
  have y9:w6.cell? ⟨gr,9,none⟩=some (.slice none 0 0):=hb6.cell 9
  have y10:w6.cell? ⟨gr,10,none⟩=some (.string ⟨#[]⟩):=hb6.cell 10
  have y11:w6.cell? ⟨gr,11,none⟩=some (.slice none 0 0):=hb6.cell 11
  have r0:=hb6.free 0
  have r1:=hb6.free 1
  have r2:=hb6.free 2
  have r3:=hb6.free 3
  have r4:=hb6.free 4
  have r5:=hb6.free 5
  have r6:=hb6.free 6
  have r7:=hb6.free 7
  have r8:=hb6.free 8
  have r9:=hb6.free 9
  have r10:=hb6.free 10
  have r11:=hb6.free 11
  clear hb6 hn6 HAN hz1 hz2 hz3 hWH k0 k1 k2 k3 p0 p1
  go_upto_region 8 with (fail)
  have HB7:=Lib.hid (HB6.out.putAll [.int .i64 (dk:Int),.string ⟨dn.toArray⟩,.string ⟨dt.toArray⟩,.int .i64 (xk:Int),.int .i64 xn,.int .u64 (xd:Int),.string ⟨s.toArray⟩,.slice zA zu zc,.slice fA2 fu fc2,.slice mA mu mc,.string ⟨de.toArray⟩,.slice tA tu tc] rfl)
  have HN7:=Lib.hid (HN6.out.puts hgw.out [.int .i64 (dk:Int),.string ⟨dn.toArray⟩,.string ⟨dt.toArray⟩,.int .i64 (xk:Int),.int .i64 xn,.int .u64 (xd:Int),.string ⟨s.toArray⟩,.slice zA zu zc,.slice fA2 fu fc2,.slice mA mu mc,.string ⟨de.toArray⟩,.slice tA tu tc] 0)
  obtain ⟨w7,hw7⟩:∃ w7,w7=wputs w6 gr 0 [.int .i64 (dk:Int),.string ⟨dn.toArray⟩,.string ⟨dt.toArray⟩,.int .i64 (xk:Int),.int .i64 xn,.int .u64 (xd:Int),.string ⟨s.toArray⟩,.slice zA zu zc,.slice fA2 fu fc2,.slice mA mu mc,.string ⟨de.toArray⟩,.slice tA tu tc]:=⟨_,rfl⟩
  rw [← hw7] at HB7 HN7
  show Code.wp _ _ _ _ (wputs w6 gr 0 [.int .i64 (dk:Int),.string ⟨dn.toArray⟩,.string ⟨dt.toArray⟩,.int .i64 (xk:Int),.int .i64 xn,.int .u64 (xd:Int),.string ⟨s.toArray⟩,.slice zA zu zc,.slice fA2 fu fc2,.slice mA mu mc,.string ⟨de.toArray⟩,.slice tA tu tc])
  rw [← hw7]
  clear hw7 y0 r0 y1 r1 y2 r2 y3 r3 y4 r4 y5 r5 y6 r6 y7 r7 y8 r8 y9 r9 y10 r10 y11 r11
  have L0:∀ x:Gr w7,x.1.cell? ⟨gr,0,none⟩=some (.int .i64 (dk:Int)):=fun x=>(HB7.out.below x.2).cell 0
  have L1:∀ x:Gr w7,x.1.cell? ⟨gr,1,none⟩=some (.string ⟨dn.toArray⟩):=fun x=>(HB7.out.below x.2).cell 1
  have L2:∀ x:Gr w7,x.1.cell? ⟨gr,2,none⟩=some (.string ⟨dt.toArray⟩):=fun x=>(HB7.out.below x.2).cell 2
  have L3:∀ x:Gr w7,x.1.cell? ⟨gr,3,none⟩=some (.int .i64 (xk:Int)):=fun x=>(HB7.out.below x.2).cell 3
  have L4:∀ x:Gr w7,x.1.cell? ⟨gr,4,none⟩=some (.int .i64 xn):=fun x=>(HB7.out.below x.2).cell 4
  have L5:∀ x:Gr w7,x.1.cell? ⟨gr,5,none⟩=some (.int .u64 (xd:Int)):=fun x=>(HB7.out.below x.2).cell 5
  have L6:∀ x:Gr w7,x.1.cell? ⟨gr,6,none⟩=some (.string ⟨s.toArray⟩):=fun x=>(HB7.out.below x.2).cell 6
  have L7:∀ x:Gr w7,x.1.cell? ⟨gr,7,none⟩=some (.slice zA zu zc):=fun x=>(HB7.out.below x.2).cell 7
  have L8:∀ x:Gr w7,x.1.cell? ⟨gr,8,none⟩=some (.slice fA2 fu fc2):=fun x=>(HB7.out.below x.2).cell 8
  have L9:∀ x:Gr w7,x.1.cell? ⟨gr,9,none⟩=some (.slice mA mu mc):=fun x=>(HB7.out.below x.2).cell 9
  have L10:∀ x:Gr w7,x.1.cell? ⟨gr,10,none⟩=some (.string ⟨de.toArray⟩):=fun x=>(HB7.out.below x.2).cell 10
  have L11:∀ x:Gr w7,x.1.cell? ⟨gr,11,none⟩=some (.slice tA tu tc):=fun x=>(HB7.out.below x.2).cell 11
  refine EH.wp_region_hyb [6] [(0,2),(1,1),(2,2),(4,2),(3,0),(5,2),(6,0),(7,2),(8,2),(9,2)] rfl (by kernel_rfl) ?_
  refine EH.hyb_pure rfl (fun K hK=>?_);go_simp;refine hK _ ?_;clear hK K
  refine EH.hyb_calm rfl (fun K hK=>?_);go_simp;refine hK _ ?_;clear hK K
  iterate 2 (refine EH.hyb_pure rfl (fun K hK=>?_);go_simp;refine hK _ ?_;clear hK K)
  clear L0 L1 L2 L3 L4 L5 L6 L7 L8 L9 L10 L11
  refine EH.hyb_alone rfl (fun w8 hn8 K hK=>?_)
  go_simp
  refine (clone_any w8 _ RM (Tx.of _) HML.out).mono ?_;rintro e w9 ⟨rfl,hn9⟩
  refine hK _ _ (.inr hn9) ?_
  clear hK K
  refine EH.hyb_pure rfl (fun K hK=>?_);go_simp;refine hK _ ?_;clear hK K
  refine EH.hyb_alone rfl (fun wa hna K hK=>?_)
  have hna9:=hn8.trans (hn9.trans hna)
  have hba:=HB7.out.below hna9
  have HBA:=Lib.hid hba
  have HNA:=Lib.hid (HN7.out.trans hna9)
  have z0:wa.cell? ⟨gr,0,none⟩=some (.int .i64 (dk:Int)):=hba.cell 0
  have z1:wa.cell? ⟨gr,1,none⟩=some (.string ⟨dn.toArray⟩):=hba.cell 1
  have z2:wa.cell? ⟨gr,2,none⟩=some (.string ⟨dt.toArray⟩):=hba.cell 2
  have z3:wa.cell? ⟨gr,3,none⟩=some (.int .i64 (xk:Int)):=hba.cell 3
  have z4:wa.cell? ⟨gr,4,none⟩=some (.int .i64 xn):=hba.cell 4
  have z5:wa.cell? ⟨gr,5,none⟩=some (.int .u64 (xd:Int)):=hba.cell 5
  have z6:wa.cell? ⟨gr,6,none⟩=some (.string ⟨s.toArray⟩):=hba.cell 6
  have z7:wa.cell? ⟨gr,7,none⟩=some (.slice zA zu zc):=hba.cell 7
  have z8:wa.cell? ⟨gr,8,none⟩=some (.slice fA2 fu fc2):=hba.cell 8
  have z9:wa.cell? ⟨gr,9,none⟩=some (.slice mA mu mc):=hba.cell 9
  have z10:wa.cell? ⟨gr,10,none⟩=some (.string ⟨de.toArray⟩):=hba.cell 10
  have z11:wa.cell? ⟨gr,11,none⟩=some (.slice tA tu tc):=hba.cell 11
  have f0:=hba.free 0
  have f1:=hba.free 1
  have f2:=hba.free 2
  have f3:=hba.free 3
  have f4:=hba.free 4
  have f5:=hba.free 5
  have f6:=hba.free 6
  have f7:=hba.free 7
  have f8:=hba.free 8
  have f9:=hba.free 9
  have f10:=hba.free 10
  have f11:=hba.free 11
  clear hba hna9 hn8 hn9 hna
  go_simp
  refine hK _ _ (.inl (by simp)) ?_
  clear hK K z0 f0 z1 f1 z2 f2 z3 f3 z4 f4 z5 f5 z6 f6 z7 f7 z8 f8 z9 f9 z10 f10 z11 f11
  obtain ⟨wb,hwb⟩:∃ wb,wb=wputs wa gr 0 [.int .i64 (dk:Int),.string ⟨dn.toArray⟩,.string ⟨dt.toArray⟩,.int .i64 (xk:Int),.int .i64 xn,.int .u64 (xd:Int),.string ⟨s.toArray⟩,.slice zA zu zc,.slice fA2 fu fc2,.slice mA mu mc,.string ⟨de.toArray⟩,.slice tA tu tc]:=⟨_,rfl⟩
  show EH.Hyb _ _ _ _ _ _ (wputs wa gr 0 [.int .i64 (dk:Int),.string ⟨dn.toArray⟩,.string ⟨dt.toArray⟩,.int .i64 (xk:Int),.int .i64 xn,.int .u64 (xd:Int),.string ⟨s.toArray⟩,.slice zA zu zc,.slice fA2 fu fc2,.slice mA mu mc,.string ⟨de.toArray⟩,.slice tA tu tc])
  rw [← hwb]
  have HBB:Hid (Blk wb gx gr #[.int .i64 (dk:Int),.string ⟨dn.toArray⟩,.string ⟨dt.toArray⟩,.int .i64 (xk:Int),.int .i64 xn,.int .u64 (xd:Int),.string ⟨s.toArray⟩,.slice zA zu zc,.slice fA2 fu fc2,.slice mA mu mc,.string ⟨de.toArray⟩,.slice tA tu tc] 56):=by unfold Hid;rw [hwb];exact HBA.out.putAll [.int .i64 (dk:Int),.string ⟨dn.toArray⟩,.string ⟨dt.toArray⟩,.int .i64 (xk:Int),.int .i64 xn,.int .u64 (xd:Int),.string ⟨s.toArray⟩,.slice zA zu zc,.slice fA2 fu fc2,.slice mA mu mc,.string ⟨de.toArray⟩,.slice tA tu tc] rfl
  have HNB:Hid (Nx w wb):=by unfold Hid;rw [hwb];exact HNA.out.puts hgw.out [.int .i64 (dk:Int),.string ⟨dn.toArray⟩,.string ⟨dt.toArray⟩,.int .i64 (xk:Int),.int .i64 xn,.int .u64 (xd:Int),.string ⟨s.toArray⟩,.slice zA zu zc,.slice fA2 fu fc2,.slice mA mu mc,.string ⟨de.toArray⟩,.slice tA tu tc] 0
  clear hwb
  iterate 3 (refine EH.hyb_pure rfl (fun K hK=>?_);go_simp;refine hK _ ?_;clear hK K)
  refine EH.hyb_nil (fun wd hnd=>?_)
  have HND:=Lib.hid hnd
  clear hnd
  go_wp2_with fail
  refine bodyPost_ret (results_const rfl _ _ gr _ _ _ _ rfl (HBB.out.below HND.out).2 Tryz.underlying56 rfl (by kernel_rfl)) rfl ?_
  rw [HR8.out]
  refine ⟨⟨⟨dk,dn,dt,⟨xk,xn,xd,s,.slice zA zu zc⟩,.slice fA2 fu fc2,.slice mA mu mc,de,.slice tA tu tc⟩,nm,d,?_,HPL.out,HNM.out,HZ.out.1,HZ.out.2.1,HZ.out.2.2,⟨_,_,_,rfl⟩,⟨_,_,_,rfl⟩,⟨_,_,_,rfl⟩,⟨_,_,_,rfl⟩⟩,HNB.out.trans HND.out⟩
  unfold bt
  rw [HWH.out]
  rfl
end
end Go.Proofs.YtpfecpcgdfbekaaGreatDoor
