/- Base LexA LexC ScR ScV ScS LexE DecD LexF LexI PrnA LexJ RdbA -/
import Derived.Test.YtpfecpcgdfbekaaGreatDoorG00
import Derived.WalkKit
import Derived.Lib.Hide
import Derived.Lib.ConvBytes
import Derived.Lib.AppendStr
import Derived.Maps.AppendAt
import Derived.Laws.BytesArg
import Derived.Deep.Draws
import Derived.OwnWalk
import Derived.Lib.SlBytesConst
import Derived.Test.YtpfecpcgdfbekaaGreatDoorG08
import Derived.Test.YtpfecpcgdfbekaaGreatDoorG01
import Derived.Test.YtpfecpcgdfbekaaGreatDoorG10
import Derived.Test.YtpfecpcgdfbekaaGreatDoorG35
import Derived.Test.YtpfecpcgdfbekaaGreatDoorG36
import Derived.Test.YtpfecpcgdfbekaaGreatDoorG26
import Derived.Test.YtpfecpcgdfbekaaGreatDoorG22
import Derived.Test.YtpfecpcgdfbekaaGreatDoorG04
import Derived.Lib.TrimByte
import Derived.Laws.Bits64b
set_option linter.unusedVariables false
set_option linter.unusedSimpArgs false
set_option linter.unnecessarySimpa false
set_option linter.unusedSectionVars false
namespace Go.Proofs.YtpfecpcgdfbekaaGreatDoor
open Go.RowKit
theorem bv_ofNat (n:Nat) (k:Int) (h:k=((n % 256:Nat):Int)):Value.int .u8 k=bv (UInt8.ofNat n):=by
 subst h;simp [bv,UInt8.toNat_ofNat]
section rows
variable {α:Type} {f:α→Value} {e:TypeId} {w w':World} {B B':Nat} {v:Value} {A:Option Addr} {xs ys:List α}
end rows
section laws
variable {α:Type} {f:α→Value} {P:Program} (w:World) {ops:Array Oper} {rest:List Oper} {o:Oper} {a:Act} {Q:Exit→Act→World→Prop}
theorem conv_str {A:Option Addr} {xs:List UInt8} (src dst e:TypeId) (hs:P.underlying src=some (.slice e)) (he:P.underlying e=some (.int .u8)) (hd:P.underlying dst=some .string)
  (hr:Rd bv w A xs) (c:Nat):(convert src dst (.slice A xs.length c)).run P w = .ok (.string ⟨xs.toArray⟩) w:=by
 rcases A with _ | a
 ·have h0:xs=[]:=by
   rcases Nat.eq_zero_or_pos xs.length with h | h
   ·exact List.eq_nil_of_length_eq_zero h
   ·obtain ⟨_,_,h,_⟩:=hr h;cases h
  subst h0
  exact run_convert_bytes_nil w src e hs he _ _ dst hd
 ·by_cases h0:xs.length=0
  ·have:xs=[]:=List.eq_nil_of_length_eq_zero h0
   subst this
   rw [run_convert_bytes_string w src dst e _ _ c hs he hd]
   simp [Conv.bytesToString,loadCells,loadCellsFrom]
   rfl
  ·obtain ⟨b,off,hA,hb,hc⟩:=hr (by omega)
   injection hA with hA
   subst hA
   have:=run_convert_bytes_arg w src e hs he b off xs.length c (xs.map fun u=>(u.toNat:Int)) (by simp) (fun i hi=>by
    rw [hc i hi];simp [List.getD,hi,bv]) dst hd
   rw [this]
   congr 2
   simp [strOfNums,Function.comp_def]
theorem wpList_str {src dst e:TypeId} (hgd:o.guard=none) (x:Operand) (ho:o.op = .convert src dst x) (hs:P.underlying src=some (.slice e)) (he:P.underlying e=some (.int .u8)) (hd:P.underlying dst=some .string)
  (A:Option Addr) (xs:List UInt8) (c:Nat) (hx:a.eval x = .slice A xs.length c) (hr:Rd bv w A xs)
  (h:∀ s:ByteArray,Hid (s=⟨xs.toArray⟩)→s.size≤xs.length→xs.length≤s.size→wpList P ops Q rest (a.put o.dst (.string s)) w):wpList P ops Q (o :: rest) a w:=by
 refine wpList_plain hgd fun K hK=>?_
 have hrun:=conv_str (P:=P) w src dst e hs he hd hr c
 have:=hK _ _ (h ⟨xs.toArray⟩ rfl (by simp [ByteArray.size]) (by simp [ByteArray.size]))
 unfold Oper.wp execOp
 simp only [ho,Sem.run_bind,Sem.run_pure,Result.andThen_ok,hx,hrun]
 exact this
end laws
def RowBytes (w:World) (A:Option Addr) (len cap:Nat):Prop:=∃ xs:List UInt8,len=xs.length∧Rd bv w A xs∧xs.length≤cap∧cap≤maxLen
theorem row_bytes_nil (w:World):RowBytes w none 0 0:=⟨[],rfl,Rd.nil,Nat.le_refl _,Nat.zero_le _⟩
def RowInts (k:IntKind) (w:World) (A:Option Addr) (len cap:Nat):Prop :=
 ∃ xs:List Int,len=xs.length∧Rd (Value.int k) w A xs∧xs.length≤cap∧cap≤maxLen∧∀ n ∈ xs,(Lit.int k n).wf=true
theorem row_ints {k:IntKind} (w:World) (x:Addr) (len cap:Nat) (zs:List Int) (hl:len≤cap) (hm:cap≤maxLen) (hz:zs.length=cap)
  (hcell:∀ i,i<zs.length→w.cell? (x.add i)=some (.int k (zs.getD i 0))) (hwz:∀ n ∈ zs,(Lit.int k n).wf=true):RowInts k w (some x) len cap:=by
 have hlen:(zs.take len).length=len:=by rw [List.length_take];omega
 refine ⟨zs.take len,hlen.symm,fun hn=>?_,by omega,hm,fun n h=>hwz n (List.mem_of_mem_take h)⟩
 rw [hlen] at hn
 obtain ⟨b,off,sp⟩:=x
 have h0:=hcell 0 (by omega)
 have hsp:sp=none:=by simpa [Addr.add] using World.cell?_spot h0
 subst hsp
 refine ⟨b,off,rfl,?_,fun j hj=>?_⟩
 ·have:=World.block_lt_of_cell? w _ h0
  simpa [Addr.add] using this
 ·rw [hlen] at hj
  have:=hcell j (by omega)
  rw [Addr.add_lit] at this
  rw [this,List.getElem_take]
  have hj':j<zs.length:=by omega
  simp [List.getD,hj']
theorem row_bytes (w:World) (x:Addr) (len cap:Nat) (zs:List Int) (hl:len≤cap) (hm:cap≤maxLen) (hz:zs.length=cap)
  (hcell:∀ i,i<zs.length→w.cell? (x.add i)=some (.int .u8 (zs.getD i 0))) (hwz:∀ n ∈ zs,(Lit.int .u8 n).wf=true):RowBytes w (some x) len cap:=by
 obtain ⟨xs,h1,h2,h3,h4,h5⟩:=row_ints (k:=.u8) w x len cap zs hl hm hz hcell hwz
 refine ⟨xs.map fun n=>UInt8.ofNat n.toNat,by simpa using h1,fun hn=>?_,by simpa using h3,h4⟩
 rw [List.length_map] at hn
 obtain ⟨b,off,e,hb,hc⟩:=h2 hn
 refine ⟨b,off,e,hb,fun j hj=>?_⟩
 rw [List.length_map] at hj
 rw [hc j hj,List.getElem_map]
 have hw:=h5 _ (List.getElem_mem hj)
 generalize xs[j]=n at hw
 have h01:0≤n∧n≤255:=by
  simp [Lit.wf,IntKind.min,IntKind.max,IntKind.signed,IntKind.bits] at hw
  omega
 rw [← bv_ofNat n.toNat n (by omega)]
end Go.Proofs.YtpfecpcgdfbekaaGreatDoor
namespace Go.Proofs.YtpfecpcgdfbekaaGreatDoor
theorem Lxs.lex {l:List UInt8} {vs:List (Nat×List UInt8×Int×Nat)} (h:Lxs l vs) (hl:l.length≤2000):∃ ts,lexS l=(ts,0,0)∧ts.map bare=vs++[(6,[],0,0)]:=by
 unfold lexS
 rw [if_neg (by omega)]
 exact h _ 0 (by omega)
end Go.Proofs.YtpfecpcgdfbekaaGreatDoor
namespace Go.Proofs.YtpfecpcgdfbekaaGreatDoor
theorem Digs.dec (n:Nat):Digs (decS n):=⟨decS_dig n,decS_ne0 n⟩
end Go.Proofs.YtpfecpcgdfbekaaGreatDoor
namespace Go.Proofs.YtpfecpcgdfbekaaGreatDoor
open Go.RowKit
def nmO (files:List Fil) (i:Int) (j:Nat):List UInt8:=match defO files i j with
 | none=>[]
 | some d=>d.nm
def whoF (names:List (List UInt8)) (files:List Fil):Pl→List UInt8×List UInt8×Nat×List UInt8
 | none=>([],[],7,[])
 | some (i,j)=>(names.getD i.toNat []++[46]++nmO files i j,names.getD i.toNat [],0,nmO files i j)
def whoC (names:List (List UInt8)) (files:List Fil):Mp3→List UInt8×List UInt8×Nat
 | none=>([],[],7)
 | some ((i,j),mb)=>(names.getD i.toNat []++[46]++nmO files i j,mb,0)
def DfV (v:Value) (nm:List UInt8):Prop:=∃ (dk xk xd:Nat) (xn:Int) (dt s de:List UInt8) (zA fA mA tA:Option Addr) (zu zc fu fc mu mc tu tc:Nat),
 v = .agg #[.int .i64 (dk:Int),.string ⟨nm.toArray⟩,.string ⟨dt.toArray⟩,.int .i64 (xk:Int),.int .i64 xn,.int .u64 (xd:Int),.string ⟨s.toArray⟩,.slice zA zu zc,.slice fA fu fc,.slice mA mu mc,.string ⟨de.toArray⟩,.slice tA tu tc]
theorem dfv_of {z:DfnS} (h1:IsSl z.ini.l) (h2:IsSl z.fields) (h3:IsSl z.mems) (h4:IsSl z.mets):DfV (.agg (dfnA z)) z.nm:=by
 obtain ⟨dk,dn,dt,⟨xk,xn,xd,s,xl⟩,xf,xm,de,xt⟩:=z
 obtain ⟨zA,zu,zc,hxl⟩:=h1
 obtain ⟨fA,fu,fc,hxf⟩:=h2
 obtain ⟨mA,mu,mc,hxm⟩:=h3
 obtain ⟨tA,tu,tc,hxt⟩:=h4
 dsimp only at hxl hxf hxm hxt
 subst hxl hxf hxm hxt
 exact ⟨dk,xk,xd,xn,dt,s,de,zA,fA,mA,tA,zu,zc,fu,fc,mu,mc,tu,tc,rfl⟩
theorem plo_nm {files:List Fil} {i:Int} {j:Nat} {d:Dfn} (h:PlOk files i j d):nmO files i j=d.nm:=by
 obtain ⟨k,hk,rfl,hj,hd⟩:=h
 unfold nmO
 rw [defO_at hk hj,hd]
theorem findR_g {names:List (List UInt8)} {files:List Fil} {P:Pl} {e:Ending} (h:FindR names files P e) :
  ∃ v,e = .returned (.tuple #[bt (whoF names files P).1,v,bt (whoF names files P).2.1,.int .i64 ((whoF names files P).2.2.1:Int)])∧DfV v (whoF names files P).2.2.2:=by
 cases P with
 | none=>exact ⟨_,h,0,0,0,0,[],[],[],none,none,none,none,0,0,0,0,0,0,0,0,rfl⟩
 | some P =>
  obtain ⟨i,j⟩:=P
  obtain ⟨z,nm,d,rfl,hp,hn,h1,h2,h3,h4,h5,h6,h7⟩:=h
  have e1:whoF names files (some (i,j))=(nm++[46]++d.nm,nm,0,d.nm):=by
   show (names.getD i.toNat []++[46]++nmO files i j,names.getD i.toNat [],0,nmO files i j)=_
   rw [plo_nm hp,show names.getD i.toNat []=nm from by simp [List.getD,hn]]
  rw [e1]
  exact ⟨_,rfl,h2 ▸ dfv_of h4 h5 h6 h7⟩
theorem constR_g {names:List (List UInt8)} {files:List Fil} {P:Mp3} {e:Ending} (h:ConstR names files P e) :
  ∃ v H nm,e = .returned (.tuple #[bt (whoC names files P).1,v,bt (whoC names files P).2.1,bt H,.int .i64 ((whoC names files P).2.2:Int)])∧DfV v nm:=by
 cases P with
 | none=>exact ⟨_,[],[],h,0,0,0,0,[],[],[],none,none,none,none,0,0,0,0,0,0,0,0,rfl⟩
 | some P =>
  obtain ⟨⟨i,j⟩,mb⟩:=P
  obtain ⟨z,nm,d,rfl,hp,hn,h1,h2,h3,h4,h5,h6,h7⟩:=h
  have e1:whoC names files (some ((i,j),mb))=(nm++[46]++d.nm,mb,0):=by
   show (names.getD i.toNat []++[46]++nmO files i j,mb,0)=_
   rw [plo_nm hp,show names.getD i.toNat []=nm from by simp [List.getD,hn]]
  rw [e1]
  exact ⟨_,nm,_,rfl,dfv_of h4 h5 h6 h7⟩
theorem txtW_mem:∀ (xs:List (List UInt8×List UInt8)) (nm:List UInt8),(txtW xs nm).getD []=[]∨∃ x ∈ xs,x.2=(txtW xs nm).getD []
 | [],_=>.inl rfl
 | x :: r,nm=>by
  unfold txtW
  split
  ·exact .inr ⟨x,by simp,rfl⟩
  ·rcases txtW_mem r nm with h | ⟨y,hy,h⟩
   ·exact .inl h
   ·exact .inr ⟨y,by simp [hy],h⟩
def txsB (xs:List (List UInt8×List UInt8)):Bool:=xs.all fun x=>numB x.2 && decide (x.1.length≤8000) && decide (x.2.length≤8000)
theorem load_w (w:World) (root:List UInt8) (A:Option Addr) (n c:Nat) (xs:List (List UInt8×List UInt8)) (hn:xs.length=n) (hrd:RdW w A xs) (hx:txsB xs=true) (hn6:n≤5)
  (names:List (List UInt8)) (files:List Fil) (m:Nat) (h1:(loadW root xs).names=names) (h2:(loadW root xs).files=files) (he:(loadW root xs).e=0) (hf:(loadW root xs).file=[]) (ha:(loadW root xs).at_=0) (hm:names.length=m) (hok:ldB names files=true) :
  Calls Tryz.prog 8 #[.agg #[.string ⟨root.toArray⟩,.slice A n c]] w fun e w'=>∃ nA nc fA fc,e = .returned (.tuple #[.agg #[.slice nA m nc,.slice fA m fc],.int .i64 0,.string ⟨#[]⟩,.int .i64 0])∧Ldn w' nA fA m nc fc names files∧Nx w w':=by
 have hx':∀ x ∈ xs,numB x.2=true∧x.1.length≤8000∧x.2.length≤8000:=by
  unfold txsB at hx
  simp only [List.all_eq_true,Bool.and_eq_true,decide_eq_true_eq] at hx
  exact fun x h=>⟨(hx x h).1.1,(hx x h).1.2,(hx x h).2⟩
 have hdoc:∀ nm,DocOk ((txtW xs nm).getD []):=fun nm=>by
  rcases txtW_mem xs nm with h | ⟨x,h,e⟩
  ·rw [h];exact docOk_w [] (by decide) rfl
  ·rw [← e];exact docOk_w _ (by have:=(hx' x h).2.2;omega) (hx' x h).1
 refine (dload_of w root A n c xs hn hrd (fun x h=>⟨(hx' x h).2.1,by have:=(hx' x h).2.2;omega⟩) (by omega) hdoc).mono ?_
 rintro e w' ⟨vn,vf,rfl,hnm,hfl,hn1⟩
 rw [h1] at hnm
 rw [h2] at hfl
 have hlf:files.length=m:=by
  unfold ldB at hok
  simp only [Bool.and_eq_true,decide_eq_true_eq] at hok
  omega
 obtain ⟨nA,nc,_,rfl,-⟩:=hnm.sl strA_size
 obtain ⟨fA,fc,_,rfl,-⟩:=hfl.sl (show ∀ x,(filA x).size=3 from fun _=>rfl)
 rw [hm] at hnm ⊢
 rw [hlf] at hfl ⊢
 rw [he,hf,ha]
 exact ⟨nA,nc,fA,fc,rfl,⟨RepL.less REq.lasts hnm (Nat.zero_le _),RepL.less RFile.lasts hfl (Nat.zero_le _),hm,hlf,hok⟩,hn1⟩
end Go.Proofs.YtpfecpcgdfbekaaGreatDoor
namespace Go.Proofs.YtpfecpcgdfbekaaGreatDoor
def bgX:List (List UInt8×List UInt8):=[([97],[105,110,99,108,117,100,101,32,39,98,39,32,101,110,117,109,32,69,32,123,88,125]),([98],[115,116,114,117,99,116,32,67,32,123,125,32,115,116,114,117,99,116,32,67,32,123,125])]
def bgN:List (List UInt8):=(loadW [97] bgX).names
def bgF:List Fil:=(loadW [97] bgX).files
theorem bg_ok:txsB bgX=true∧(loadW [97] bgX).e=0∧(loadW [97] bgX).file=[]∧(loadW [97] bgX).at_=0∧bgN.length=2∧ldB bgN bgF=true:=by decide +kernel
theorem bg_find:whoF bgN bgF (findP bgN bgF [97] [98,46,67])=([98,46,67],[98],0,[67]):=by decide +kernel
theorem bg_const:(whoC bgN bgF (constP bgN bgF [97] [69,46,88])).2=([88],0):=by decide +kernel
theorem bg_twice:twP bgN bgF=some ([98],[67]):=by decide +kernel
end Go.Proofs.YtpfecpcgdfbekaaGreatDoor
namespace Go.Proofs.YtpfecpcgdfbekaaGreatDoor
open Go.RowKit
set_option maxRecDepth 100000 in
set_option maxHeartbeats 3200000 in
theorem scbegun_any (w:World) (hm:MaxC w) :
  Calls Tryz.prog 7 #[] w fun e w'=>e = .returned (.bool true)∧Nx w w':=by
 have HM:=Lib.hid hm
 obtain ⟨gA,hgA⟩:∃ g,w.heap.size=g:=⟨_,rfl⟩
 clear hm
 go_enter Tryz.func7,Tryz.ntmps7
 go_wp2_with fail
 have HN1:Hid (Nx w (w.alloc (.cells #[.string ⟨#[97]⟩,.string ⟨#[105,110,99,108,117,100,101,32,39,98,39,32,101,110,117,109,32,69,32,123,88,125]⟩,.string ⟨#[98]⟩,.string ⟨#[115,116,114,117,99,116,32,67,32,123,125,32,115,116,114,117,99,116,32,67,32,123,125]⟩] 33))):=nx0 _ _
 have hB1:=Blk.new w #[.string ⟨#[97]⟩,.string ⟨#[105,110,99,108,117,100,101,32,39,98,39,32,101,110,117,109,32,69,32,123,88,125]⟩,.string ⟨#[98]⟩,.string ⟨#[115,116,114,117,99,116,32,67,32,123,125,32,115,116,114,117,99,116,32,67,32,123,125]⟩] 33
 rw [hgA] at hB1
 have HB1:=Lib.hid hB1
 generalize World.alloc w _=w1 at *
 clear hB1
 have hrd:RdW w1 (some ⟨gA,0,none⟩) bgX:=fun _=>⟨gA,0,rfl,HB1.out.lt,fun i hi=>by
  have hi:i<2:=hi
  rcases (show i=0∨i=1 by omega) with rfl | rfl
  ·exact ⟨HB1.out.cell 0,HB1.out.cell 1⟩
  ·exact ⟨HB1.out.cell 2,HB1.out.cell 3⟩⟩
 obtain ⟨o1,o2,o3,o4,o5,o6⟩:=bg_ok
 refine (load_w w1 [97] _ 2 2 bgX rfl hrd o1 (by decide) bgN bgF 2 rfl rfl o2 o3 o4 o5 o6).mono ?_
 rintro e w2 ⟨nA,nc,fA,fc,rfl,hld,hn2⟩
 clear hrd hgA o1 o2 o3 o4 o5 o6
 obtain ⟨g1,hg1⟩:∃ g,w2.heap.size=g:=⟨_,rfl⟩
 obtain ⟨w3,hw3⟩:∃ w3,w2.alloc (.cells #[.slice nA 2 nc,.slice fA 2 fc] 28)=w3:=⟨_,rfl⟩
 have hb3:Blk w3 g1 g1 #[.slice nA 2 nc,.slice fA 2 fc] 28:=by rw [← hw3,← hg1];exact Blk.new w2 _ _
 have hn3:Nx w2 w3:=by rw [← hw3];exact nx0 _ _
 have HLD3:=Lib.hid (hld.nx hn3)
 have HN3:=Lib.hid (HN1.out.trans (hn2.trans hn3))
 have a0:w3.cell? ⟨g1,0,none⟩=some (.slice nA 2 nc):=hb3.cell 0
 have a1:w3.cell? ⟨g1,1,none⟩=some (.slice fA 2 fc):=hb3.cell 1
 clear hld hn2 hn3 hb3
 go_wp2_with fail
 clear hw3 hg1
 refine (from_any w3 nA fA 2 nc 2 fc).mono ?_;rintro e w4 ⟨rfl,hn4⟩
 obtain ⟨g2,hg2⟩:∃ g,w4.heap.size=g:=⟨_,rfl⟩
 obtain ⟨w5,hw5⟩:∃ w5,w4.alloc (.cells #[.slice nA 2 nc,.slice fA 2 fc] 39)=w5:=⟨_,rfl⟩
 have hb5:Blk w5 g2 g2 #[.slice nA 2 nc,.slice fA 2 fc] 39:=by rw [← hw5,← hg2];exact Blk.new w4 _ _
 have hn5:Nx w4 w5:=by rw [← hw5];exact nx0 _ _
 have HLD5:=Lib.hid (HLD3.out.nx (hn4.trans hn5))
 have HN5:=Lib.hid (HN3.out.trans (hn4.trans hn5))
 have HB5:=Lib.hid hb5
 have c0:w5.cell? ⟨g2,0,none⟩=some (.slice nA 2 nc):=hb5.cell 0
 have c1:w5.cell? ⟨g2,1,none⟩=some (.slice fA 2 fc):=hb5.cell 1
 clear hn4 hn5 hb5 a0 a1
 go_wp2_with fail
 clear hw5 hg2
 refine (Find_any HLD5.out [97] [98,46,67] (by decide) (HM.out.nx HN5.out)).mono ?_;rintro e w6 ⟨hfr,hn6⟩
 obtain ⟨v,rfl,hv⟩:=findR_g hfr
 rw [bg_find] at hv ⊢
 obtain ⟨dk,xk,xd,xn,dt,s,de,zA,fA2,mA,tA,zu,zc,fu,fc2,mu,mc,tu,tc,rfl⟩:=hv
 dsimp only [bt]
 obtain ⟨g3,hg3⟩:∃ g,w6.heap.size=g:=⟨_,rfl⟩
 obtain ⟨w7,hw7⟩:∃ w7,w6.alloc (.cells #[.int .i64 (dk:Int),.string ⟨#[67]⟩,.string ⟨dt.toArray⟩,.int .i64 (xk:Int),.int .i64 xn,.int .u64 (xd:Int),.string ⟨s.toArray⟩,.slice zA zu zc,.slice fA2 fu fc2,.slice mA mu mc,.string ⟨de.toArray⟩,.slice tA tu tc] 56)=w7:=⟨_,rfl⟩
 have hb7:Blk w7 g3 g3 #[.int .i64 (dk:Int),.string ⟨#[67]⟩,.string ⟨dt.toArray⟩,.int .i64 (xk:Int),.int .i64 xn,.int .u64 (xd:Int),.string ⟨s.toArray⟩,.slice zA zu zc,.slice fA2 fu fc2,.slice mA mu mc,.string ⟨de.toArray⟩,.slice tA tu tc] 56:=by rw [← hw7,← hg3];exact Blk.new w6 _ _
 have hn7:Nx w6 w7:=by rw [← hw7];exact nx0 _ _
 have HB7:=Lib.hid hb7
 have hb2:=HB5.out.below (hn6.trans hn7)
 have HB2:=Lib.hid hb2
 have HLD7:=Lib.hid (HLD5.out.nx (hn6.trans hn7))
 have HN7:=Lib.hid (HN5.out.trans (hn6.trans hn7))
 clear c0 c1 hn6 hn7 hb7 hfr
 have c0:w7.cell? ⟨g2,0,none⟩=some (.slice nA 2 nc):=hb2.cell 0
 have c1:w7.cell? ⟨g2,1,none⟩=some (.slice fA 2 fc):=hb2.cell 1
 clear hb2
 go_wp2_with fail
 clear hw7 hg3
 refine (Const_any HLD7.out [97] [69,46,88] (by decide) (HM.out.nx HN7.out)).mono ?_;rintro e w8 ⟨hcr,hn8⟩
 obtain ⟨v,H,nm,rfl,hv⟩:=constR_g hcr
 have hbc:=bg_const
 obtain ⟨WC,hWC⟩:∃ x,whoC bgN bgF (constP bgN bgF [97] [69,46,88])=x:=⟨_,rfl⟩
 rw [hWC] at hbc ⊢
 obtain ⟨W1,W2,W3⟩:=WC
 obtain ⟨rfl,rfl⟩:W2=[88]∧W3=0:=Prod.mk.inj hbc
 obtain ⟨dk2,xk2,xd2,xn2,dt2,s2,de2,zA2,fA3,mA2,tA2,zu2,zc2,fu2,fc3,mu2,mc2,tu2,tc2,rfl⟩:=hv
 dsimp only [bt]
 have HN8:=Lib.hid (HN7.out.trans hn8)
 have HLD8:=Lib.hid (HLD7.out.nx hn8)
 have hb2:=HB2.out.below hn8
 have hb3:=HB7.out.below hn8
 clear c0 c1 hcr hbc hWC
 obtain ⟨w9,hw9⟩:∃ w9,w8.alloc (.cells #[.int .i64 (dk2:Int),.string ⟨nm.toArray⟩,.string ⟨dt2.toArray⟩,.int .i64 (xk2:Int),.int .i64 xn2,.int .u64 (xd2:Int),.string ⟨s2.toArray⟩,.slice zA2 zu2 zc2,.slice fA3 fu2 fc3,.slice mA2 mu2 mc2,.string ⟨de2.toArray⟩,.slice tA2 tu2 tc2] 56)=w9:=⟨_,rfl⟩
 have hn9:Nx w8 w9:=by rw [← hw9];exact nx0 _ _
 have HN9:=Lib.hid (HN8.out.trans hn9)
 have HLD9:=Lib.hid (HLD8.out.nx hn9)
 have HB9:=Lib.hid (hb3.below hn9)
 have c0:w9.cell? ⟨g2,0,none⟩=some (.slice nA 2 nc):=(hb2.below hn9).cell 0
 have c1:w9.cell? ⟨g2,1,none⟩=some (.slice fA 2 fc):=(hb2.below hn9).cell 1
 clear hn8 hn9 hb2 hb3
 go_wp2_with fail
 clear hw9
 refine (Twice_any w9 _ _ _ _ _ _ _ HLD9.out).mono ?_;rintro e wa ⟨rfl,hna⟩
 rw [bg_twice]
 dsimp only [twV,bt,Option.getD,Option.isSome]
 have HNA:=Lib.hid (HN9.out.trans hna)
 have d1:wa.cell? ⟨g3,1,none⟩=some (.string ⟨#[67]⟩):=(HB9.out.below hna).cell 1
 clear c0 c1 hna
 go_wp2_with fail
 go_ret
 exact ⟨rfl,HNA.out⟩
end Go.Proofs.YtpfecpcgdfbekaaGreatDoor
namespace Go.Proofs.YtpfecpcgdfbekaaGreatDoor
end Go.Proofs.YtpfecpcgdfbekaaGreatDoor
namespace Go.Proofs.YtpfecpcgdfbekaaGreatDoor
open Go.RowKit
def exM (b:Nat):Nat:=if b / 4503599627370496=0 then b % 4503599627370496 else b % 4503599627370496+4503599627370496
def exP (b:Nat):Int:=if b / 4503599627370496=0 then -1074 else ((b / 4503599627370496:Nat):Int) - 1075
def GE10 (x y:Nat) (p:Int):Prop:=y * 10 ^ p.toNat≤x * 10 ^ (-p).toNat
def exX (b:Nat):Nat:=exM b * 2 ^ (exP b).toNat
def exY (b:Nat):Nat:=1 * 2 ^ (-exP b).toNat
def digQ (x y:Nat) (T:Int):Nat:=rnd (x * 10 ^ (16 - T).toNat) (y * 10 ^ (-(16 - T)).toNat)
def tailS (l:List UInt8):List UInt8:=if Lib.trimRightB l 48=[] then [48] else Lib.trimRightB l 48
def showD (T:Int) (D:Nat):List UInt8:=(decS D).take 1++(46 :: (tailS ((decS D).drop 1)++(101 :: tenS (T+((decS D).length:Nat) - 17))))
def sgS (B:Nat):List UInt8:=if 9223372036854775808≤B then [45] else []
def ShowR (B:Nat) (l:List UInt8):Prop :=
 if LIM≤B % 9223372036854775808 then l=[]
 else if B % 9223372036854775808=0 then l=sgS B++[48,46,48,101,48]
 else ∃ T:Int,GE10 (exX (B % 9223372036854775808)) (exY (B % 9223372036854775808)) T∧¬ GE10 (exX (B % 9223372036854775808)) (exY (B % 9223372036854775808)) (T+1) ∧
  l=sgS B++showD T (digQ (exX (B % 9223372036854775808)) (exY (B % 9223372036854775808)) T)
theorem Tx.sz {s:ByteArray} {l:List UInt8} (h:Tx s l) (k:Nat) (hk:l.length≤k):s.size≤k:=by rw [h.size];exact hk
end Go.Proofs.YtpfecpcgdfbekaaGreatDoor
namespace Go.Proofs.YtpfecpcgdfbekaaGreatDoor
theorem tenS_shape (n:Int):∃ z E,tenS n=z++E∧Sgn z∧Digs E:=by
 unfold tenS
 split
 ·exact ⟨[45],_,rfl,.inr rfl,Digs.dec _⟩
 ·exact ⟨[],_,rfl,.inl rfl,Digs.dec _⟩
theorem trim_mem (l:List UInt8) (c:UInt8) (h:c ∈ Lib.trimRightB l 48):c ∈ l:=by
 unfold Lib.trimRightB at h
 have h1:=List.mem_reverse.1 h
 exact List.mem_reverse.1 ((List.dropWhile_suffix _).subset h1)
theorem tailS_digs (l:List UInt8) (h:∀ c ∈ l,isDig c=true):Digs (tailS l):=by
 unfold tailS
 split
 ·exact ⟨by decide,by decide⟩
 ·rename_i h1
  exact ⟨fun c hc=>h c (trim_mem _ _ hc),h1⟩
theorem sgS_sg (B:Nat):Sgn (sgS B):=by
 unfold sgS
 split
 ·exact .inr rfl
 ·exact .inl rfl
theorem showR_shape {B:Nat} {l:List UInt8} (h:ShowR B l) (hfin:B % 9223372036854775808<LIM):∃ s W F z E,Dbl s W F z E∧l=dblT s W F z E:=by
 unfold ShowR at h
 rw [if_neg (by omega)] at h
 split at h
 ·exact ⟨sgS B,[48],[48],[],[48],⟨sgS_sg B,⟨by decide,by decide⟩,⟨by decide,by decide⟩,.inl rfl,⟨by decide,by decide⟩⟩,h⟩
 ·obtain ⟨T,_,_,rfl⟩:=h
  generalize digQ _ _ T=D
  obtain ⟨z,E,e,hz,hE⟩:=tenS_shape (T+((decS D).length:Nat) - 17)
  refine ⟨sgS B,(decS D).take 1,tailS ((decS D).drop 1),z,E,⟨sgS_sg B,⟨fun c hc=>decS_dig D c (List.mem_of_mem_take hc),?_⟩,tailS_digs _ (fun c hc=>decS_dig D c (List.mem_of_mem_drop hc)),hz,hE⟩,?_⟩
  ·have:=decS_ne0 D
   cases hd:decS D with
   | nil=>exact absurd hd this
   | cons a b=>simp
  ·unfold showD dblT
   rw [e]
theorem Wd.shown {B:Nat} {l:List UInt8} (h:ShowR B l) (hfin:B % 9223372036854775808<LIM) (hb:parseS l=(B,0)):Wd (3,[],0,B) l:=by
 obtain ⟨s,W,F,z,E,hd,rfl⟩:=showR_shape h hfin
 exact Wd.dbl hd hb
theorem parse_fin {w:List UInt8} {B:Nat} (h:parseS w=(B,0)):B<18446744073709551616∧B % 9223372036854775808<LIM:=by
 unfold parseS at h
 dsimp only at h
 have hL:LIM=9218868437227405312:=rfl
 split at h
 ·cases h
 ·split at h
  ·cases h
  ·split at h
   ·cases h
   ·split at h
    ·cases h
    ·split at h
     ·rename_i h1
      have e:_=B:=congrArg Prod.fst h
      dsimp only at e
      split at e <;> omega
     ·cases h
def quoT (s:List UInt8):List UInt8:=if s.contains 34 then 39 :: (s++[39]) else 34 :: (s++[34])
theorem Wd.quo {q:UInt8} {s:List UInt8} (hq:q=34∨q=39) (h1:∀ c ∈ s,c≠q) (h2:∀ c ∈ s,c≠10):Wd (4,s,0,0) (quoT s):=by
 unfold quoT
 split
 ·rename_i h
  rcases hq with rfl | rfl
  ·exact absurd rfl (h1 34 (List.contains_iff_mem.1 h))
  ·exact Wd.text (.inr rfl) h1 h2
 ·rename_i h
  refine Wd.text (.inl rfl) (fun c hc e=>h ?_) h2
  subst e
  exact List.contains_iff_mem.2 hc
def wordT (sh:Nat→List UInt8) (v:Nat×List UInt8×Int×Nat):List UInt8 :=
 if v.1=1∨v.1=5 then v.2.1 else if v.1=2 then tenS v.2.2.1 else if v.1=3 then sh v.2.2.2 else if v.1=4 then quoT v.2.1 else []
theorem TokOk.wd {sh:Nat→List UInt8} (hs:∀ B,B<18446744073709551616→B % 9223372036854775808<LIM→ShowR B (sh B)∧parseS (sh B)=(B,0)) {v:Nat×List UInt8×Int×Nat} (h:TokOk v) (hv:v.1≠6):Wd v (wordT sh v):=by
 cases h with
 | name h=>exact Wd.name h.head h.all h.len h.dots
 | int n h1 h2=>exact Wd.int n h1 h2
 | dbl B w h =>
  obtain ⟨h1,h2⟩:=parse_fin h
  obtain ⟨h3,h4⟩:=hs B h1 h2
  exact Wd.shown h3 h2 h4
 | text q s hq h1 h2=>exact Wd.quo hq h1 h2
 | sign c h=>exact Wd.sign h
 | fin=>exact absurd rfl hv
end Go.Proofs.YtpfecpcgdfbekaaGreatDoor
namespace Go.Proofs.YtpfecpcgdfbekaaGreatDoor
theorem white_ne {c:UInt8} (hw:isWhS c=true):c≠35∧c≠47:=by
 constructor <;> (rintro rfl;revert hw;decide)
theorem gapS_white {c:UInt8} (hw:isWhS c=true) (l:List UInt8):gapS (c :: l)=(spanN isWhS l+1,true):=by
 have hne:=white_ne hw
 unfold gapS
 dsimp only
 rw [if_neg (fun h=>h.elim hne.1 (fun h=>hne.2 h.1)),if_neg (fun h=>hne.2 h.1)]
 have:spanN isWhS (c :: l)=spanN isWhS l+1:=if_pos hw
 rw [this]
theorem skip_whiteL {c:UInt8} (hc:isWhS c=true) (l:List UInt8):skipS (c :: l)=((skipS l).1+1,(skipS l).2):=by
 rw [skipS_step,gapS_white hc,if_neg (by simp)]
 rw [show (c :: l).drop ((spanN isWhS l+1,true):Nat×Bool).1=l.drop (spanN isWhS l) from rfl]
 by_cases h0:spanN isWhS l=0
 ·rw [h0,List.drop_zero]
  simp [Nat.add_comm]
 ·cases l with
  | nil=>exact absurd rfl h0
  | cons d r =>
   have hw:isWhS d=true:=by
    cases hc:isWhS d
    ·exfalso;apply h0;unfold spanN;rw [hc];rfl
    ·rfl
   have e:spanN isWhS (d :: r)=spanN isWhS r+1:=if_pos hw
   rw [skipS_step (d :: r),gapS_white hw,if_neg (by simp),e]
   simp
   omega
theorem next_white {c:UInt8} (hc:isWhS c=true) (o:Nat) (l:List UInt8):(nextS o (c :: l)).1=(nextS (o+1) l).1∧(nextS o (c :: l)).2.1=(nextS (o+1) l).2.1∧(nextS o (c :: l)).2.2.1=(nextS (o+1) l).2.2.1 ∧
  ((nextS (o+1) l).1=0→(nextS o (c :: l)).2.2.2=(nextS (o+1) l).2.2.2+1):=by
 unfold nextS
 rw [skip_whiteL hc l]
 dsimp only
 rw [show (c :: l).drop ((skipS l).1+1)=l.drop (skipS l).1 from rfl]
 have e1:o+((skipS l).1+1)=o+1+(skipS l).1:=by omega
 rw [e1]
 split
 ·exact ⟨rfl,rfl,rfl,fun h=>by cases h⟩
 ·split
  ·rename_i h
   exact ⟨rfl,rfl,rfl,fun h2=>absurd h2 h⟩
  ·refine ⟨rfl,rfl,rfl,fun _=>?_⟩
   dsimp only
   omega
theorem lexF_white {c:UInt8} (hc:isWhS c=true) (f o:Nat) (l:List UInt8):lexF (f+1) o (c :: l)=lexF (f+1) (o+1) l:=by
 obtain ⟨h1,h2,h3,h4⟩:=next_white hc o l
 unfold lexF
 rw [h1,h2,h3]
 split
 ·rfl
 ·rename_i h
  have h5:=h4 (by simpa using h)
  rw [h5]
  rw [show (c :: l).drop ((nextS (o+1) l).2.2.2+1)=l.drop (nextS (o+1) l).2.2.2 from rfl]
  rw [show o+((nextS (o+1) l).2.2.2+1)=o+1+(nextS (o+1) l).2.2.2 by omega]
theorem Lxs.white {c:UInt8} (hc:isWhS c=true) {l:List UInt8} {vs:List (Nat×List UInt8×Int×Nat)} (h:Lxs l vs):Lxs (c :: l) vs:=by
 intro f o hf
 cases f with
 | zero=>simp at hf
 | succ f =>
  rw [lexF_white hc]
  exact h _ _ (by simp at hf;omega)
theorem Lxs.word {t r:List UInt8} {v:Nat×List UInt8×Int×Nat} {vs:List (Nat×List UInt8×Int×Nat)} (hp:0<t.length) (h6:v.1≠6) (ha:∃ c r,t=c :: r∧isWhS c=false∧c≠35∧c≠47)
  (hw:∃ x,wordS (t++r)=(0,0,x,t.length)∧bare x=v) (h:Lxs r vs):Lxs (t++r) (v :: vs):=fun f o hf=>by
 cases f with
 | zero=>omega
 | succ f =>
  obtain ⟨c,t',e,a1,a2,a3⟩:=ha
  have h1:=Sk.none_ (t++r) (.inr ⟨c,t'++r,by rw [e];rfl,a1,a2,a3⟩)
  rw [List.nil_append] at h1
  obtain ⟨x,h2,h3⟩:=hw
  have h4:nextS o (t++r)=(0,0,{ x with p:=o },t.length):=by
   unfold nextS
   rw [h1]
   dsimp only
   rw [if_neg (by simp),List.length_nil,List.drop_zero,h2]
   simp
  simp only [List.length_append] at hf
  obtain ⟨ts,h5,h6'⟩:=h f (o+t.length) (by omega)
  have hx:x.k=v.1:=by rw [← h3];rfl
  refine ⟨{ x with p:=o } :: ts,?_,?_⟩
  ·show (if _ then _ else _)=_
   rw [h4]
   dsimp only
   rw [if_neg (by simp),if_neg (by rw [hx];exact h6),List.drop_left' rfl,h5]
   rfl
  ·rw [List.map_cons,h6']
   show (x.k,x.t,x.n,x.d) :: _=_
   rw [show (x.k,x.t,x.n,x.d)=v from h3];rfl
abbrev Vs:=List (Nat×List UInt8×Int×Nat)
def P0 (a:List UInt8) (vs:Vs):Prop:=∀ r ws,Lxs r ws→Lxs (a++r) (vs++ws)
def P1 (a:List UInt8) (vs:Vs):Prop:=∀ r ws,Bd r→Lxs r ws→Lxs (a++r) (vs++ws)
def Hd (a:List UInt8):Prop:=∃ c r,a=c :: r∧isNmS c=false
theorem Hd.bd {a:List UInt8} (h:Hd a) (r:List UInt8):Bd (a++r):=by
 obtain ⟨c,l,rfl,h⟩:=h
 exact Bd.of h
theorem Hd.app {a:List UInt8} (h:Hd a) (r:List UInt8):Hd (a++r):=by
 obtain ⟨c,l,rfl,h⟩:=h
 exact ⟨c,l++r,rfl,h⟩
theorem P0.p1 {a:List UInt8} {vs:Vs} (h:P0 a vs):P1 a vs:=fun r ws _ hr=>h r ws hr
theorem P0.nil_:P0 [] []:=fun _ _ h=>h
theorem P0.then0 {a b:List UInt8} {vs us:Vs} (h:P0 a vs) (k:P0 b us):P0 (a++b) (vs++us):=fun r ws hr=>by
 rw [List.append_assoc,List.append_assoc];exact h _ _ (k _ _ hr)
theorem P0.then1 {a b:List UInt8} {vs us:Vs} (h:P0 a vs) (k:P1 b us):P1 (a++b) (vs++us):=fun r ws hb hr=>by
 rw [List.append_assoc,List.append_assoc];exact h _ _ (k _ _ hb hr)
theorem P1.then0 {a b:List UInt8} {vs us:Vs} (h:P1 a vs) (hb:Hd b) (k:P0 b us):P0 (a++b) (vs++us):=fun r ws hr=>by
 rw [List.append_assoc,List.append_assoc];exact h _ _ (hb.bd r) (k _ _ hr)
theorem P1.then1 {a b:List UInt8} {vs us:Vs} (h:P1 a vs) (hb:Hd b) (k:P1 b us):P1 (a++b) (vs++us):=fun r ws hr hl=>by
 rw [List.append_assoc,List.append_assoc];exact h _ _ (hb.bd r) (k _ _ hr hl)
theorem P0.white {a:List UInt8} (h:∀ c ∈ a,isWhS c=true):P0 a []:=fun r ws hr=>by
 induction a with
 | nil=>exact hr
 | cons c a ih=>exact Lxs.white (h c (by simp)) (ih (fun d hd=>h d (by simp [hd])))
theorem P1.wd {v:Nat×List UInt8×Int×Nat} {t:List UInt8} (h:Wd v t):P1 t [v]:=fun r ws hb hr=>Lxs.word h.pos h.notEnd h.ahead (h.word hb) hr
theorem P0.sign {c:UInt8} (h:signsL.contains c=true):P0 [c] [(5,[c],0,0)]:=fun r ws hr=>by
 have hw:=Wd.sign h
 refine Lxs.word hw.pos hw.notEnd hw.ahead ?_ hr
 refine ⟨⟨5,[c],0,0,0⟩,?_,rfl⟩
 have hm:c ∈ signsL:=List.contains_iff_mem.1 h
 unfold signsL at hm
 simp only [List.mem_cons,List.not_mem_nil,or_false] at hm
 rcases hm with rfl | rfl | rfl | rfl | rfl | rfl | rfl | rfl | rfl | rfl | rfl | rfl | rfl <;> rfl
theorem P0.flat {α:Type} {f:α→List UInt8} {g:α→Vs}:∀ (l:List α),(∀ x ∈ l,P0 (f x) (g x))→P0 (l.flatMap f) (l.flatMap g)
 | [],_=>P0.nil_
 | x :: l,h=>by
  rw [List.flatMap_cons,List.flatMap_cons]
  exact (h x (by simp)).then0 (P0.flat l (fun y hy=>h y (by simp [hy])))
theorem P0.whole {a:List UInt8} {vs:Vs} (h:P0 a vs):Lxs a vs:=by
 have:=h [] [] (Lxs.end_ Sk.none_)
 rwa [List.append_nil,List.append_nil] at this
theorem Lxs.same {l:List UInt8} {vs us:Vs} (h:Lxs l vs) (e:vs=us):Lxs l us:=e ▸ h
theorem P0.same {l:List UInt8} {vs us:Vs} (h:P0 l vs) (e:vs=us):P0 l us:=e ▸ h
theorem P1.same {l:List UInt8} {vs us:Vs} (h:P1 l vs) (e:vs=us):P1 l us:=e ▸ h
end Go.Proofs.YtpfecpcgdfbekaaGreatDoor
namespace Go.Proofs.YtpfecpcgdfbekaaGreatDoor
section
variable (tn:Int→List UInt8) (sh:Nat→List UInt8)
end
end Go.Proofs.YtpfecpcgdfbekaaGreatDoor
namespace Go.Proofs.YtpfecpcgdfbekaaGreatDoor
def sgW (c:UInt8):Nat×List UInt8×Int×Nat:=(5,[c],0,0)
def nmW (t:List UInt8):Nat×List UInt8×Int×Nat:=(1,t,0,0)
def All1:List (List UInt8)→List Vs→Prop
 | [],[]=>True
 | a :: az,v :: vs=>P1 a v∧All1 az vs
 | _,_=>False
theorem All1.map {α:Type} {f:α→List UInt8} {g:α→Vs}:∀ (l:List α),(∀ x ∈ l,P1 (f x) (g x))→All1 (l.map f) (l.map g)
 | [],_=>trivial
 | x :: l,h=>⟨h x (by simp),All1.map l (fun y hy=>h y (by simp [hy]))⟩
def commaV:List Vs→Vs
 | []=>[]
 | [x]=>x
 | x :: y :: r=>x++[sgW 44]++commaV (y :: r)
def pairsV:List Vs→List Vs
 | a :: b :: r=>(a++[sgW 58]++b) :: pairsV r
 | _=>[]
theorem P0.signSp {c:UInt8} (h:signsL.contains c=true):P0 [c,32] [sgW c]:=(P0.sign h).then0 (P0.white (a:=[32]) (by decide))
def constV:Nat→Con→Vs
 | 0,_=>[]
 | n+1,.mk k i d s l =>
  if k=1 then [(2,[],i,0)] else if k=2 then [(3,[],0,d)] else if k=3 then [(4,s,0,0)] else if k=4 then [nmW s]
  else if k=5 then sgW 91 :: (commaV (l.map (constV n))++[sgW 93]) else sgW 123 :: (commaV (pairsV (l.map (constV n)))++[sgW 125])
def wfC:Nat→Con→Prop
 | 0,_=>False
 | n+1,.mk k i d s l =>
  (k=1→-9223372036854775808≤i∧i≤9223372036854775807)∧(k=2→d<18446744073709551616∧d % 9223372036854775808<LIM) ∧
  (k=3→∃ q,(q=34∨q=39)∧(∀ c ∈ s,c≠q)∧∀ c ∈ s,c≠10)∧(k=4→NameT s)∧∀ y ∈ l,wfC n y
theorem P1.name {t:List UInt8} (h:NameT t):P1 t [nmW t]:=P1.wd (Wd.name h.head h.all h.len h.dots)
theorem P1.int {n:Int} (h1 : -9223372036854775808≤n) (h2:n≤9223372036854775807):P1 (tenS n) [(2,[],n,0)]:=P1.wd (Wd.int n h1 h2)
end Go.Proofs.YtpfecpcgdfbekaaGreatDoor
namespace Go.Proofs.YtpfecpcgdfbekaaGreatDoor
def Ahd (ws:List TokV) (i:Nat) (us:Vs):Prop:=(ws.drop i).map bare=us
def isV (t:List UInt8) (v:Nat×List UInt8×Int×Nat):Bool:=(decide (v.1=1) || decide (v.1=5)) && decide (v.2.1=t)
section
variable {ws:List TokV}
theorem Ahd.tok {i:Nat} {v:Nat×List UInt8×Int×Nat} {us:Vs} (h:Ahd ws i (v :: us)):bare (wordP ws ⟨i,0⟩)=v∧Ahd ws (i+1) us∧i<ws.length:=by
 unfold Ahd at h
 cases hd:ws.drop i with
 | nil=>rw [hd] at h;cases h
 | cons x xs =>
  rw [hd] at h
  have hl:i<ws.length:=by
   apply Classical.byContradiction
   intro hn
   rw [List.drop_eq_nil_of_le (by omega)] at hd
   cases hd
  have e:=List.drop_eq_getElem_cons hl
  rw [hd] at e
  injection e with e1 e2
  rw [List.map_cons] at h
  injection h with h1 h2
  refine ⟨?_,?_,hl⟩
  ·show bare (ws.getD i tok0)=v
   rw [List.getD_eq_getElem?_getD,List.getElem?_eq_getElem hl,← e1]
   exact h1
  ·unfold Ahd
   rw [← e2];exact h2
theorem Ahd.k {i:Nat} {v:Nat×List UInt8×Int×Nat} {us:Vs} (h:Ahd ws i (v :: us)):(wordP ws ⟨i,0⟩).k=v.1∧(wordP ws ⟨i,0⟩).t=v.2.1∧(wordP ws ⟨i,0⟩).n=v.2.2.1∧(wordP ws ⟨i,0⟩).d=v.2.2.2:=by
 have:=h.tok.1
 subst this
 exact ⟨rfl,rfl,rfl,rfl⟩
theorem Ahd.is {i:Nat} {v:Nat×List UInt8×Int×Nat} {us:Vs} (h:Ahd ws i (v :: us)) (t:List UInt8):isP ws t ⟨i,0⟩=isV t v:=by
 obtain ⟨h1,h2,-,-⟩:=h.k
 unfold isP isV
 rw [h1,h2]
theorem Ahd.to {i:Nat} {v:Nat×List UInt8×Int×Nat} {us:Vs} (h:Ahd ws i (v :: us)):Ahd ws (i+1) us:=h.tok.2.1
theorem nextP0 (i:Nat):nextP ⟨i,0⟩=⟨i+1,0⟩:=rfl
theorem Ahd.need {i:Nat} {c:UInt8} {us:Vs} (h:Ahd ws i (sgW c :: us)):needP ws [c] ⟨i,0⟩=⟨i+1,0⟩:=by
 unfold needP
 rw [h.is,if_pos (show isV [c] (sgW c)=true by simp [isV,sgW])]
 rfl
theorem Ahd.take {i:Nat} {v:Nat×List UInt8×Int×Nat} {us:Vs} (h:Ahd ws i (v :: us)) (t:List UInt8):takeP ws t ⟨i,0⟩=if isV t v then ⟨i+1,0⟩ else ⟨i,0⟩:=by
 unfold takeP
 rw [h.is]
 rfl
theorem Ahd.app {i:Nat} {us vs:Vs} (h:Ahd ws i us) (e:us=vs):Ahd ws i vs:=e ▸ h
theorem sg_is {c:UInt8} {t:List UInt8} (h:t≠[c]):isV t (sgW c)=false:=by
 unfold isV sgW
 simp
 exact fun e=>h e.symm
theorem nm_is (t s:List UInt8):isV t (nmW s)=decide (s=t):=rfl
def SgF (us:Vs):Prop:=∃ c r,us=sgW c :: r∧c≠61
theorem SgF.of {c:UInt8} {r:Vs} (h:c≠61):SgF (sgW c :: r):=⟨c,r,rfl,h⟩
theorem sepP_no {i:Nat} {v:Nat×List UInt8×Int×Nat} {us:Vs} (h:Ahd ws i (v :: us)) (h1:isV [44] v=false) (h2:isV [59] v=false):sepP ws ⟨i,0⟩=⟨i,0⟩:=by
 unfold sepP
 rw [h.is,h.take,h1,h2]
 rfl
theorem sepP_yes {i:Nat} {us:Vs} (h:Ahd ws i (sgW 44 :: us)):sepP ws ⟨i,0⟩=⟨i+1,0⟩:=by
 unfold sepP
 rw [h.is,show isV [44] (sgW 44)=true from by decide]
 rfl
inductive Chn (ws:List TokV) {α:Type} (p:PSt→Bool) (read:PSt→α×PSt):Nat→List α→Nat→Prop
 | nil {i:Nat}:p ⟨i,0⟩=false→Chn ws p read i [] i
 | cons {i j k m:Nat} {x:α} {l:List α}:p ⟨i,0⟩=true→i<j→read ⟨i,0⟩=(x,⟨j,0⟩)→sepP ws ⟨j,0⟩=⟨k,0⟩→j≤k→Chn ws p read k l m→Chn ws p read i (x :: l) m
theorem Chn.le {α:Type} {p:PSt→Bool} {read:PSt→α×PSt} {i m:Nat} {l:List α} (h:Chn ws p read i l m):i+l.length≤m:=by
 induction h with
 | nil _=>simp
 | cons _ h1 _ _ h2 _ ih=>simp;omega
theorem Chn.elems {α:Type} {p:PSt→Bool} {read:PSt→α×PSt} {i m:Nat} {l:List α} (h:Chn ws p read i l m):∀ (f:Nat) (acc:List α) (most:Nat),acc.length+l.length≤most→l.length<f →
  elemsP ws p most read f acc ⟨i,0⟩=(acc++l,⟨m,0⟩):=by
 induction h with
 | nil hp =>
  intro f acc most h1 h2
  cases f with
  | zero=>simp at h2
  | succ f =>
   show (if _ then _ else _)=_
   rw [hp,List.append_nil];rfl
 | @cons i j k m x l hp hij hr hs hjk hc ih =>
  intro f acc most h1 h2
  cases f with
  | zero=>simp at h2
  | succ f =>
   simp only [List.length_cons] at h1 h2
   have ha:addP most read acc ⟨i,0⟩=(acc++[x],⟨j,0⟩):=by
    unfold addP
    rw [if_neg (by omega),hr]
   show (if _ then elemsP ws p most read f (addP most read acc ⟨i,0⟩).1 (sepP ws (addP most read acc ⟨i,0⟩).2) else _)=_
   rw [if_pos hp,ha]
   dsimp only
   rw [hs,ih f _ most (by simp;omega) (by omega)]
   simp
def Rds {α:Type} (ws:List TokV) (p:PSt→Bool) (read:PSt→α×PSt) (g:α→Vs) (x:α):Prop :=
 ∀ i us,SgF us→Ahd ws i (g x++us)→∃ j,i<j∧p ⟨i,0⟩=true∧read ⟨i,0⟩=(x,⟨j,0⟩)∧Ahd ws j us
theorem comma_chn {α:Type} {p:PSt→Bool} {read:PSt→α×PSt} {g:α→Vs} {c:UInt8} (h1:c≠44) (h2:c≠59) (h3:c≠61) (hp:∀ i us,Ahd ws i (sgW c :: us)→p ⟨i,0⟩=false) :
  ∀ (l:List α),(∀ x ∈ l,Rds ws p read g x)→∀ i us,Ahd ws i (commaV (l.map g)++sgW c :: us)→∃ m,Chn ws p read i l m∧Ahd ws m (sgW c :: us)
 | [],_,i,us,h=>⟨i,.nil (hp i us h),h⟩
 | [x],hl,i,us,h=>by
  obtain ⟨j,a1,a2,a3,a4⟩:=hl x (by simp) i (sgW c :: us) (SgF.of h3) h
  exact ⟨j,.cons a2 a1 a3 (sepP_no a4 (sg_is (by simpa using fun e=>h1 e.symm)) (sg_is (by simpa using fun e=>h2 e.symm))) (Nat.le_refl _) (.nil (hp j us a4)),a4⟩
 | x :: y :: r,hl,i,us,h=>by
  have h':Ahd ws i (g x++(sgW 44 :: (commaV ((y :: r).map g)++sgW c :: us))):=h.app (by simp [commaV])
  obtain ⟨j,a1,a2,a3,a4⟩:=hl x (by simp) i _ (SgF.of (by decide)) h'
  obtain ⟨m,b1,b2⟩:=comma_chn h1 h2 h3 hp (y :: r) (fun z hz=>hl z (by simp only [List.mem_cons] at hz ⊢;exact .inr hz)) (j+1) us a4.to
  exact ⟨m,.cons a2 a1 a3 (sepP_yes a4) (Nat.le_succ _) b1,b2⟩
theorem tail_chn {α:Type} {p:PSt→Bool} {read:PSt→α×PSt} {g:α→Vs} {c:UInt8} (hp:∀ i us,Ahd ws i (sgW c :: us)→p ⟨i,0⟩=false) :
  ∀ (l:List α),(∀ x ∈ l,Rds ws p read g x)→∀ i us,Ahd ws i (l.flatMap (fun x=>g x++[sgW 44])++sgW c :: us)→∃ m,Chn ws p read i l m∧Ahd ws m (sgW c :: us)
 | [],_,i,us,h=>⟨i,.nil (hp i us h),h⟩
 | x :: r,hl,i,us,h=>by
  have h':Ahd ws i (g x++(sgW 44 :: (r.flatMap (fun x=>g x++[sgW 44])++sgW c :: us))):=h.app (by simp)
  obtain ⟨j,a1,a2,a3,a4⟩:=hl x (by simp) i _ (SgF.of (by decide)) h'
  obtain ⟨m,b1,b2⟩:=tail_chn hp r (fun z hz=>hl z (by simp only [List.mem_cons];exact .inr hz)) (j+1) us a4.to
  exact ⟨m,.cons a2 a1 a3 (sepP_yes a4) (Nat.le_succ _) b1,b2⟩
theorem Chn.read {α:Type} {p:PSt→Bool} {read:PSt→α×PSt} {i m:Nat} {l:List α} {us:Vs} {v:Nat×List UInt8×Int×Nat} (h:Chn ws p read i l m) (ha:Ahd ws m (v :: us)) (most:Nat) (hl:l.length≤most) :
  elemsP ws p most read (ws.length+1) [] ⟨i,0⟩=(l,⟨m,0⟩):=by
 have:=h.le
 have h2:=ha.tok.2.2
 rw [h.elems (ws.length+1) [] most (by simpa using hl) (by omega),List.nil_append]
end
end Go.Proofs.YtpfecpcgdfbekaaGreatDoor
