/- RdbB PrnF LexK RdbC RdbD -/
import Derived.Test.YtpfecpcgdfbekaaGreatDoorS00
import Derived.Test.YtpfecpcgdfbekaaGreatDoorG11
import Derived.Test.YtpfecpcgdfbekaaGreatDoorG08
import Derived.Test.YtpfecpcgdfbekaaGreatDoorG00
import Derived.Deep.Light
set_option linter.unusedVariables false
set_option linter.unusedSimpArgs false
set_option linter.unnecessarySimpa false
set_option linter.unusedSectionVars false
namespace Go.Proofs.YtpfecpcgdfbekaaGreatDoor
inductive TyW:Nat→List UInt8→Vs→Prop
 | leaf {r:Nat} {t:List UInt8}:t≠kByte→(oftP t || qualP t)=true→t≠kList→t≠kSet→t≠kMap→TyW r t [nmW t]
 | list {r:Nat} {a:List UInt8} {vs:Vs}:TyW r a vs→TyW (r+1) (kList++60 :: a++[62]) (nmW kList :: sgW 60 :: (vs++[sgW 62]))
 | set {r:Nat} {a:List UInt8} {vs:Vs}:TyW r a vs→TyW (r+1) (kSet++60 :: a++[62]) (nmW kSet :: sgW 60 :: (vs++[sgW 62]))
 | map {r:Nat} {a b:List UInt8} {vs us:Vs}:TyW r a vs→TyW r b us→TyW (r+1) (kMap++60 :: a++44 :: b++[62]) (nmW kMap :: sgW 60 :: (vs++sgW 44 :: (us++[sgW 62])))
theorem TyW.head {r:Nat} {t:List UInt8} {vs:Vs} (h:TyW r t vs):∃ v us,vs=nmW v :: us∧(oftP v || qualP v)=true:=by
 cases h with
 | leaf _ h _ _ _=>exact ⟨_,_,rfl,h⟩
 | list _=>exact ⟨_,_,rfl,by decide⟩
 | set _=>exact ⟨_,_,rfl,by decide⟩
 | map _ _=>exact ⟨_,_,rfl,by decide⟩
section
variable {ws:List TokV}
theorem atName_nm {i:Nat} {t:List UInt8} {us:Vs} (h:Ahd ws i (nmW t :: us)):atNameP ws ⟨i,0⟩=true:=by
 unfold atNameP
 rw [h.k.1];rfl
theorem atType_nm {i:Nat} {t:List UInt8} {us:Vs} (h:Ahd ws i (nmW t :: us)) (ht:(oftP t || qualP t)=true):atTypeP ws ⟨i,0⟩=true:=by
 unfold atTypeP
 rw [atName_nm h,h.k.2.1]
 exact ht
theorem atType_sg {i:Nat} {c:UInt8} {us:Vs} (h:Ahd ws i (sgW c :: us)):atTypeP ws ⟨i,0⟩=false:=by
 unfold atTypeP atNameP
 rw [h.k.1];rfl
theorem leafP_ok {i:Nat} {t:List UInt8} {us:Vs} (h:Ahd ws i (nmW t :: us)) (h0:t≠kByte) (ht:(oftP t || qualP t)=true):leafP ws ⟨i,0⟩=(t,⟨i+1,0⟩):=by
 unfold leafP
 rw [h.is,nm_is,if_neg (by simpa using h0),if_pos (atType_nm h ht),h.k.2.1]
 rfl
theorem typeP_ok {r:Nat} {t:List UInt8} {vs:Vs} (h:TyW r t vs):∀ i us,Ahd ws i (vs++us)→∃ j,i<j∧typeP ws r ⟨i,0⟩=(t,⟨j,0⟩)∧Ahd ws j us:=by
 induction h with
 | @leaf r t h0 h1 h2 h3 h4 =>
  intro i us ha
  have ha':Ahd ws i (nmW t :: us):=ha
  refine ⟨i+1,Nat.lt_succ_self _,?_,ha'.to⟩
  have e1:isP ws kList ⟨i,0⟩=false:=by rw [ha'.is,nm_is];simpa using h2
  have e2:isP ws kSet ⟨i,0⟩=false:=by rw [ha'.is,nm_is];simpa using h3
  have e3:isP ws kMap ⟨i,0⟩=false:=by rw [ha'.is,nm_is];simpa using h4
  cases r with
  | zero =>
   unfold typeP
   rw [e1,e2,e3]
   exact leafP_ok ha' h0 h1
  | succ r =>
   unfold typeP
   rw [e1,e2,e3]
   exact leafP_ok ha' h0 h1
 | @list r a vs h ih =>
  intro i us ha
  have h0:Ahd ws i (nmW kList :: sgW 60 :: (vs++sgW 62 :: us)):=ha.app (by simp)
  obtain ⟨j,a1,a2,a3⟩:=ih _ _ h0.to.to
  refine ⟨j+1,by omega,?_,a3.to⟩
  unfold typeP
  rw [h0.is,nm_is,if_pos (by simp),nextP0,h0.to.need,a2]
  dsimp only
  rw [a3.need]
 | @set r a vs h ih =>
  intro i us ha
  have h0:Ahd ws i (nmW kSet :: sgW 60 :: (vs++sgW 62 :: us)):=ha.app (by simp)
  obtain ⟨j,a1,a2,a3⟩:=ih _ _ h0.to.to
  refine ⟨j+1,by omega,?_,a3.to⟩
  unfold typeP
  rw [h0.is,nm_is,if_neg (by decide),h0.is,nm_is,if_pos (by simp),nextP0,h0.to.need,a2]
  dsimp only
  rw [a3.need]
 | @map r a b vs vs2 h k ih ik =>
  intro i us ha
  have h0:Ahd ws i (nmW kMap :: sgW 60 :: (vs++sgW 44 :: (vs2++sgW 62 :: us))):=ha.app (by simp)
  obtain ⟨j,a1,a2,a3⟩:=ih _ _ h0.to.to
  obtain ⟨m,b1,b2,b3⟩:=ik _ _ a3.to
  refine ⟨m+1,by omega,?_,b3.to⟩
  unfold typeP
  rw [h0.is,nm_is,if_neg (by decide),h0.is,nm_is,if_neg (by decide),h0.is,nm_is,if_pos (by simp),nextP0,h0.to.need,a2]
  dsimp only
  rw [a3.need,b2]
  dsimp only
  rw [b3.need]
def okR:Nat→Con→Prop
 | 0,_=>False
 | n+1,.mk k i d s l=>(k=1∧d=0∧s=[]∧l=[])∨(k=2∧i=0∧s=[]∧l=[])∨(k=3∧i=0∧d=0∧l=[]) ∨
  (k=4∧i=0∧d=0∧l=[]∧(s=kTrue∨s=kFalse∨qualP s=true)) ∨
  (0<n∧k=5∧i=0∧d=0∧s=[]∧l.length≤40∧∀ y ∈ l,okR n y) ∨
  (0<n∧k=6∧i=0∧d=0∧s=[]∧∃ ps,l=flatP ps∧ps.length≤40∧∀ p ∈ ps,okR n p.1∧okR n p.2)
theorem leafC (r:Nat) {i:Nat} {v:Nat×List UInt8×Int×Nat} {us:Vs} {c:Con} (h:Ahd ws i (v :: us)) (hk:v.1=2∨v.1=3∨v.1=4∨(v.1=1∧(v.2.1=kTrue∨v.2.1=kFalse∨qualP v.2.1=true)))
  (hc:∀ x,bare x=v→conV x=c):atConP ws ⟨i,0⟩=true∧conP ws r ⟨i,0⟩=(c,⟨i+1,0⟩):=by
 have e:=h.k
 have hat:atConP ws ⟨i,0⟩=true:=by
  unfold atConP
  dsimp only
  rw [e.1]
  rcases hk with hk | hk | hk | ⟨hk,ht⟩
  ·rw [if_pos (.inl hk)]
  ·rw [if_pos (.inr (.inl hk))]
  ·rw [if_pos (.inr (.inr hk))]
  ·rw [if_neg (by omega),if_pos hk,h.is,h.is,e.2.1]
   have hv:∀ t,isV t v=decide (v.2.1=t):=fun t=>by unfold isV;rw [hk];simp
   rw [hv,hv]
   rcases ht with ht | ht | ht <;> simp [ht]
 have hkk:(wordP ws ⟨i,0⟩).k=2∨(wordP ws ⟨i,0⟩).k=3∨(wordP ws ⟨i,0⟩).k=4∨(wordP ws ⟨i,0⟩).k=1:=by
  rw [e.1]
  rcases hk with hk | hk | hk | hk
  ·exact .inl hk
  ·exact .inr (.inl hk)
  ·exact .inr (.inr (.inl hk))
  ·exact .inr (.inr (.inr hk.1))
 refine ⟨hat,?_⟩
 cases r with
 | zero =>
  unfold conP
  rw [if_neg (by rw [hat];decide),if_pos hkk,hc _ h.tok.1]
  rfl
 | succ r =>
  unfold conP
  rw [if_neg (by rw [hat];decide),if_pos hkk,hc _ h.tok.1]
  rfl
theorem atCon_sg {i:Nat} {c:UInt8} {us:Vs} (h:Ahd ws i (sgW c :: us)):atConP ws ⟨i,0⟩=(decide (c=91) || decide (c=123)):=by
 unfold atConP
 dsimp only
 rw [h.k.1,show (sgW c).1=5 from rfl,if_neg (by decide),if_neg (by decide),h.is,h.is]
 have hv:∀ d,isV [d] (sgW c)=decide (c=d):=fun d=>by rw [Bool.eq_iff_iff];simp [isV,sgW]
 rw [hv,hv]
theorem pairsV_map {g:Con→Vs}:∀ (ps:List (Con×Con)),pairsV ((flatP ps).map g)=ps.map (fun p=>g p.1++[sgW 58]++g p.2)
 | []=>rfl
 | p :: ps=>by
  have ih:=pairsV_map (g:=g) ps
  show pairsV (((p.1 :: p.2 :: flatP ps)).map g)=_
  rw [List.map_cons,List.map_cons]
  unfold pairsV
  rw [ih];rfl
theorem conP_ok:∀ (n:Nat) (c:Con),okR (n+1) c→∀ i us,Ahd ws i (constV (n+1) c++us)→∃ j,i<j∧atConP ws ⟨i,0⟩=true∧conP ws n ⟨i,0⟩=(c,⟨j,0⟩)∧Ahd ws j us
 | n,.mk k i0 d0 s l,h=>by
  intro i us ha
  unfold okR at h
  rcases h with ⟨rfl,rfl,rfl,rfl⟩ | ⟨rfl,rfl,rfl,rfl⟩ | ⟨rfl,rfl,rfl,rfl⟩ | ⟨rfl,rfl,rfl,rfl,hs⟩ | ⟨hn,rfl,rfl,rfl,rfl,hl,hy⟩ | ⟨hn,rfl,rfl,rfl,rfl,ps,rfl,hl,hy⟩
  ·have h0:Ahd ws i ((2,[],i0,0) :: us):=ha
   obtain ⟨a,b⟩:=leafC (c:=.mk 1 i0 0 [] []) n h0 (.inl rfl) (fun x hx=>by
    have h1:x.k=2:=congrArg (·.1) hx
    have h2:x.n=i0:=congrArg (·.2.2.1) hx
    unfold conV;rw [if_pos h1,h2])
   exact ⟨i+1,Nat.lt_succ_self _,a,b,h0.to⟩
  ·have h0:Ahd ws i ((3,[],0,d0) :: us):=ha
   obtain ⟨a,b⟩:=leafC (c:=.mk 2 0 d0 [] []) n h0 (.inr (.inl rfl)) (fun x hx=>by
    have h1:x.k=3:=congrArg (·.1) hx
    have h2:x.d=d0:=congrArg (·.2.2.2) hx
    unfold conV;rw [if_neg (by omega),if_pos h1,h2])
   exact ⟨i+1,Nat.lt_succ_self _,a,b,h0.to⟩
  ·have h0:Ahd ws i ((4,s,0,0) :: us):=ha
   obtain ⟨a,b⟩:=leafC (c:=.mk 3 0 0 s []) n h0 (.inr (.inr (.inl rfl))) (fun x hx=>by
    have h1:x.k=4:=congrArg (·.1) hx
    have h2:x.t=s:=congrArg (·.2.1) hx
    unfold conV;rw [if_neg (by omega),if_neg (by omega),if_pos h1,h2])
   exact ⟨i+1,Nat.lt_succ_self _,a,b,h0.to⟩
  ·have h0:Ahd ws i (nmW s :: us):=ha
   obtain ⟨a,b⟩:=leafC (c:=.mk 4 0 0 s []) n h0 (.inr (.inr (.inr ⟨rfl,hs⟩))) (fun x hx=>by
    have h1:x.k=1:=congrArg (·.1) hx
    have h2:x.t=s:=congrArg (·.2.1) hx
    unfold conV;rw [if_neg (by omega),if_neg (by omega),if_neg (by omega),h2])
   exact ⟨i+1,Nat.lt_succ_self _,a,b,h0.to⟩
  ·obtain ⟨m,rfl⟩:∃ m,n=m+1:=⟨n - 1,by omega⟩
   have h0:Ahd ws i (sgW 91 :: (commaV (l.map (constV (m+1)))++sgW 93 :: us)):=ha.app (by show sgW 91 :: (_++[sgW 93])++us=_;simp)
   have hat:atConP ws ⟨i,0⟩=true:=by rw [atCon_sg h0];rfl
   obtain ⟨j,c1,c2⟩:=comma_chn (p:=atConP ws) (read:=conP ws m) (c:=93) (by decide) (by decide) (by decide) (fun i us h=>by rw [atCon_sg h];rfl) l (fun y hy' i us _ ha=>conP_ok m y (hy y hy') i us ha) _ _ h0.to
   have hle:=c1.le
   refine ⟨j+1,by omega,hat,?_,c2.to⟩
   unfold conP
   rw [if_neg (by rw [hat];decide),if_neg (by rw [h0.k.1];decide),h0.is,if_pos (by decide),nextP0,c1.read c2 40 hl]
   dsimp only
   rw [c2.need]
  ·obtain ⟨m,rfl⟩:∃ m,n=m+1:=⟨n - 1,by omega⟩
   have h0:Ahd ws i (sgW 123 :: (commaV (ps.map (fun p=>constV (m+1) p.1++[sgW 58]++constV (m+1) p.2))++sgW 125 :: us)):=by
    refine ha.app ?_
    show sgW 123 :: (commaV (pairsV ((flatP ps).map (constV (m+1))))++[sgW 125])++us=_
    rw [pairsV_map];simp
   have hat:atConP ws ⟨i,0⟩=true:=by rw [atCon_sg h0];rfl
   have hpair:∀ p ∈ ps,Rds ws (atConP ws) (pairP ws (conP ws m)) (fun p=>constV (m+1) p.1++[sgW 58]++constV (m+1) p.2) p:=by
    intro p hp i us hsg ha
    have h1:Ahd ws i (constV (m+1) p.1++sgW 58 :: (constV (m+1) p.2++us)):=ha.app (by simp)
    obtain ⟨j,a1,a2,a3,a4⟩:=conP_ok m p.1 (hy p hp).1 i _ h1
    obtain ⟨k,b1,b2,b3,b4⟩:=conP_ok m p.2 (hy p hp).2 _ us a4.to
    refine ⟨k,by omega,a2,?_,b4⟩
    unfold pairP
    dsimp only
    rw [a3]
    dsimp only
    rw [a4.need,b3]
   obtain ⟨j,c1,c2⟩:=comma_chn (p:=atConP ws) (read:=pairP ws (conP ws m)) (c:=125) (by decide) (by decide) (by decide) (fun i us h=>by rw [atCon_sg h];rfl) ps hpair _ _ h0.to
   have hle:=c1.le
   refine ⟨j+1,by omega,hat,?_,c2.to⟩
   unfold conP
   rw [if_neg (by rw [hat];decide),if_neg (by rw [h0.k.1];decide),h0.is,if_neg (by decide),h0.need,c1.read c2 40 hl]
   dsimp only
   rw [c2.need]
end
end Go.Proofs.YtpfecpcgdfbekaaGreatDoor
namespace Go.Proofs.YtpfecpcgdfbekaaGreatDoor
section
variable (tn:Int→List UInt8) (sh:Nat→List UInt8)
def wordD:Nat→List UInt8
 | 1=>[116,121,112,101,100,101,102,32]
 | 2=>[101,110,117,109,32]
 | 3=>[99,111,110,115,116,32]
 | 4=>[115,116,114,117,99,116,32]
 | 5=>[117,110,105,111,110,32]
 | 6=>[101,120,99,101,112,116,105,111,110,32]
 | 7=>[115,101,114,118,105,99,101,32]
 | _=>[]
end
end Go.Proofs.YtpfecpcgdfbekaaGreatDoor
namespace Go.Proofs.YtpfecpcgdfbekaaGreatDoor
theorem hd1 {c:UInt8} {r:List UInt8} (h:isNmS c=false):Hd (c :: r):=⟨c,r,rfl,h⟩
theorem P1.sp {a:List UInt8} {vs:Vs} (h:P1 a vs):P0 (a++[32]) vs:=(h.then0 (hd1 (by decide)) (P0.white (a:=[32]) (by decide))).same (by simp)
theorem P1.nl {a:List UInt8} {vs:Vs} (h:P1 a vs):P0 (a++[10]) vs:=(h.then0 (hd1 (by decide)) (P0.white (a:=[10]) (by decide))).same (by simp)
theorem P0.nl {a:List UInt8} {vs:Vs} (h:P0 a vs):P0 (a++[10]) vs:=h.p1.nl
theorem P0.eqs_:P0 [32,61,32] [sgW 61]:=(P0.white (a:=[32]) (by decide)).then0 (P0.signSp (by decide))
section
variable (tw:List UInt8→Vs)
def idV (b:Bool) (i:Int):Vs:=if b then [(2,[],i,0),sgW 58] else []
def reqV (r:Nat):Vs:=if r=1 then [nmW [114,101,113,117,105,114,101,100]] else if r=2 then [nmW [111,112,116,105,111,110,97,108]] else []
def fieldV (f:Fld):Vs:=idV f.hasID f.id++reqV f.req++tw f.ty++[nmW f.nm]++(if f.hasIn then [sgW 61]++constV 13 f.ini else [])
def fieldsV (l:List Fld):Vs:=commaV (l.map (fieldV tw))
def memV (m:Mem):Vs:=[nmW m.nm]++(if m.has then [sgW 61]++[(2,[],m.n,0)] else [])++[sgW 44]
def fldLV (f:Fld):Vs:=fieldV tw f++[sgW 44]
def oneV (b:Bool):Vs:=if b then [nmW [111,110,101,119,97,121]] else []
def methodV (m:Met):Vs :=
 oneV m.one++tw m.ret++[nmW m.nm]++[sgW 40]++fieldsV tw m.args++[sgW 41]++(if 0<m.thr.length then [nmW [116,104,114,111,119,115],sgW 40]++fieldsV tw m.thr++[sgW 41] else [])++[sgW 44]
def wfF (f:Fld):Prop:=(f.hasID=true→-9223372036854775808≤f.id∧f.id≤9223372036854775807)∧P1 f.ty (tw f.ty)∧NameT f.nm∧(f.hasIn=true→wfC 13 f.ini)
def wfMem (m:Mem):Prop:=NameT m.nm∧(m.has=true→-9223372036854775808≤m.n∧m.n≤9223372036854775807)
def wfMet (m:Met):Prop:=P1 m.ret (tw m.ret)∧NameT m.nm∧(∀ f ∈ m.args,wfF tw f)∧∀ f ∈ m.thr,wfF tw f
theorem kw_name {t:List UInt8} (h:NameT t):P0 (t++[32]) [nmW t]:=(P1.name h).sp
theorem NameT.of {t:List UInt8} (h1:∃ c r,t=c :: r∧(isLetS c || decide (c.toNat=95))=true) (h2:(t.all isNmS && decide (t.length≤120) && !dotBad t)=true):NameT t:=by
 rw [Bool.and_eq_true,Bool.and_eq_true] at h2
 exact ⟨h1,by simpa using h2.1.1,by simpa using h2.1.2,by simpa using h2.2⟩
variable {sh:Nat→List UInt8} (hs:∀ B,B<18446744073709551616→B % 9223372036854775808<LIM→ShowR B (sh B)∧parseS (sh B)=(B,0))
include hs
omit hs in
def kwT:Nat→List UInt8
 | 1=>[116,121,112,101,100,101,102]
 | 2=>[101,110,117,109]
 | 3=>[99,111,110,115,116]
 | 4=>[115,116,114,117,99,116]
 | 5=>[117,110,105,111,110]
 | 6=>[101,120,99,101,112,116,105,111,110]
 | _=>[115,101,114,118,105,99,101]
omit hs in
theorem kwT_p0 (k:Nat) (h1:1≤k) (h2:k≤7):P0 (wordD k) [nmW (kwT k)]:=by
 rcases (show k=1∨k=2∨k=3∨k=4∨k=5∨k=6∨k=7 by omega) with rfl | rfl | rfl | rfl | rfl | rfl | rfl
 ·exact kw_name (t:=kwT 1) (NameT.of ⟨_,_,rfl,by decide⟩ (by decide))
 ·exact kw_name (t:=kwT 2) (NameT.of ⟨_,_,rfl,by decide⟩ (by decide))
 ·exact kw_name (t:=kwT 3) (NameT.of ⟨_,_,rfl,by decide⟩ (by decide))
 ·exact kw_name (t:=kwT 4) (NameT.of ⟨_,_,rfl,by decide⟩ (by decide))
 ·exact kw_name (t:=kwT 5) (NameT.of ⟨_,_,rfl,by decide⟩ (by decide))
 ·exact kw_name (t:=kwT 6) (NameT.of ⟨_,_,rfl,by decide⟩ (by decide))
 ·exact kw_name (t:=kwT 7) (NameT.of ⟨_,_,rfl,by decide⟩ (by decide))
def extV (e:List UInt8):Vs:=if e=[] then [] else [nmW [101,120,116,101,110,100,115],nmW e]
def defV (d:Dfn):Vs :=
 if d.k=1 then [nmW (kwT 1)]++tw d.ty++[nmW d.nm]
 else if d.k=3 then [nmW (kwT 3)]++tw d.ty++[nmW d.nm]++[sgW 61]++constV 13 d.ini
 else [nmW (kwT d.k)]++[nmW d.nm]++extV d.ext++[sgW 123]++d.mems.flatMap memV++d.fields.flatMap (fldLV tw)++d.mets.flatMap (methodV tw)++[sgW 125]
structure wfD (d:Dfn):Prop where
 k1:1≤d.k
 k7:d.k≤7
 nm:NameT d.nm
 ty:d.k=1∨d.k=3→P1 d.ty (tw d.ty)
 ini:d.k=3→wfC 13 d.ini
 ext:d.ext≠[]→NameT d.ext
 mems:∀ m ∈ d.mems,wfMem m
 fields:∀ f ∈ d.fields,wfF tw f
 mets:∀ m ∈ d.mets,wfMet tw m
omit hs in
def incWV (s:List UInt8):Vs:=[nmW [105,110,99,108,117,100,101],(4,s,0,0)]
def scW (s:List UInt8):Nat×List UInt8×Int×Nat:=if s=[42] then sgW 42 else nmW s
def spcV (s:Spc):Vs:=[nmW [110,97,109,101,115,112,97,99,101],scW s.scope,nmW s.nm]
omit hs in
omit hs in
def fileV (f:Fil):Vs:=f.incs.flatMap incWV++f.spaces.flatMap spcV++f.defs.flatMap (defV tw)
structure wfFil (f:Fil):Prop where
 incs:∀ s ∈ f.incs,(∀ c ∈ s,c≠34)∧∀ c ∈ s,c≠10
 spaces:∀ s ∈ f.spaces,(s.scope≠[42]→NameT s.scope)∧NameT s.nm
 defs:∀ d ∈ f.defs,wfD tw d
end
end Go.Proofs.YtpfecpcgdfbekaaGreatDoor
namespace Go.Proofs.YtpfecpcgdfbekaaGreatDoor
section
variable {ws:List TokV}
theorem plainN_ok {i:Nat} {t:List UInt8} {us:Vs} (h:Ahd ws i (nmW t :: us)) (ht:plainP t=true):plainN ws ⟨i,0⟩=(t,⟨i+1,0⟩):=by
 have e:atPlainP ws ⟨i,0⟩=true:=by unfold atPlainP;rw [atName_nm h,h.k.2.1];exact ht
 unfold plainN
 dsimp only
 rw [if_pos e,h.k.2.1]
 rfl
theorem qualN_ok {i:Nat} {t:List UInt8} {us:Vs} (h:Ahd ws i (nmW t :: us)) (ht:qualP t=true):qualN ws ⟨i,0⟩=(t,⟨i+1,0⟩):=by
 have e:atQualP ws ⟨i,0⟩=true:=by unfold atQualP;rw [atName_nm h,h.k.2.1];exact ht
 unfold qualN
 dsimp only
 rw [if_pos e,h.k.2.1]
 rfl
theorem type_not {v:List UInt8} (h:(oftP v || qualP v)=true):v≠kRequired∧v≠kOptional∧v≠kVoid∧v≠kOneway:=by
 refine ⟨?_,?_,?_,?_⟩ <;> (rintro rfl;revert h;decide)
theorem is_nm {i:Nat} {t:List UInt8} {us:Vs} (h:Ahd ws i (nmW t :: us)) (s:List UInt8):isP ws s ⟨i,0⟩=decide (t=s):=by rw [h.is,nm_is]
theorem is_no {i:Nat} {t s:List UInt8} {us:Vs} (h:Ahd ws i (nmW t :: us)) (hn:t≠s):isP ws s ⟨i,0⟩=false:=by rw [is_nm h];exact decide_eq_false hn
theorem is_yes {i:Nat} {t:List UInt8} {us:Vs} (h:Ahd ws i (nmW t :: us)):isP ws t ⟨i,0⟩=true:=by rw [is_nm h];exact decide_eq_true rfl
theorem is_sg {i:Nat} {c:UInt8} {s:List UInt8} {us:Vs} (h:Ahd ws i (sgW c :: us)) (hn:s≠[c]):isP ws s ⟨i,0⟩=false:=by rw [h.is,sg_is hn]
theorem is_sg1 {i:Nat} {c:UInt8} {us:Vs} (h:Ahd ws i (sgW c :: us)):isP ws [c] ⟨i,0⟩=true:=by rw [h.is];simp [isV,sgW]
theorem req_ok {r:Nat} (hr:r≤2) {v:List UInt8} {us:Vs} {i:Nat} (hv:(oftP v || qualP v)=true) (ha:Ahd ws i (reqV r++nmW v :: us)) :
  reqP ws ⟨i,0⟩=r∧(∃ k,i≤k∧reqN ws ⟨i,0⟩=⟨k,0⟩∧Ahd ws k (nmW v :: us))∧(wordP ws ⟨i,0⟩).k=1∧atFieldP ws ⟨i,0⟩=true:=by
 obtain ⟨n1,n2,-,-⟩:=type_not hv
 rcases (show r=0∨r=1∨r=2 by omega) with rfl | rfl | rfl
 ·have h:Ahd ws i (nmW v :: us):=ha
  refine ⟨?_,⟨i,Nat.le_refl _,?_,h⟩,h.k.1,?_⟩
  ·unfold reqP;rw [is_no h n1,is_no h n2];rfl
  ·unfold reqN takeP;rw [is_no h n1,is_no h n2];rfl
  ·unfold atFieldP;rw [atType_nm h hv];simp
 ·have h:Ahd ws i (nmW kRequired :: nmW v :: us):=ha
  refine ⟨?_,⟨i+1,Nat.le_succ _,?_,h.to⟩,h.k.1,?_⟩
  ·unfold reqP;rw [is_yes h];rfl
  ·unfold reqN;rw [is_yes h];rfl
  ·unfold atFieldP;rw [is_yes h];simp
 ·have h:Ahd ws i (nmW kOptional :: nmW v :: us):=ha
  refine ⟨?_,⟨i+1,Nat.le_succ _,?_,h.to⟩,h.k.1,?_⟩
  ·unfold reqP;rw [is_no h (by decide),is_yes h];rfl
  ·unfold reqN takeP;rw [is_no h (by decide),is_yes h];rfl
  ·unfold atFieldP;rw [is_yes h];simp
theorem atField_sg {i:Nat} {us:Vs} (h:Ahd ws i (sgW 41 :: us)):atFieldP ws ⟨i,0⟩=false:=by
 unfold atFieldP
 rw [h.k.1,is_sg h (by decide),is_sg h (by decide),atType_sg h]
 rfl
variable (tw:List UInt8→Vs)
structure okRF (f:Fld):Prop where
 id:f.hasID=false→f.id=0
 req:f.req≤2
 ty:TyW 12 f.ty (tw f.ty)
 nm:plainP f.nm=true
 ini:f.hasIn=true→okR 13 f.ini
 no:f.hasIn=false→f.ini=con0
variable {tw}
theorem field_ok {f:Fld} (h:okRF tw f):Rds ws (atFieldP ws) (fieldP ws) (fieldV tw) f:=by
 intro i us hsg ha
 obtain ⟨v,vs,hv,hq⟩:=h.ty.head
 obtain ⟨R,hR⟩:∃ R,vs++nmW f.nm :: ((if f.hasIn then [sgW 61]++constV 13 f.ini else [])++us)=R:=⟨_,rfl⟩
 have h1:∃ i1,i≤i1∧decide ((wordP ws ⟨i,0⟩).k=2)=f.hasID∧(if f.hasID=true then needP ws [58] (nextP ⟨i,0⟩) else ⟨i,0⟩)=⟨i1,0⟩∧(if f.hasID=true then (wordP ws ⟨i,0⟩).n else 0)=f.id ∧
   Ahd ws i1 (reqV f.req++nmW v :: R)∧(f.hasID=true→atFieldP ws ⟨i,0⟩=true)∧(f.hasID=false→i1=i):=by
  cases hb:f.hasID with
  | true =>
   have ha':Ahd ws i ((2,[],f.id,0) :: sgW 58 :: (reqV f.req++nmW v :: R)):=ha.app (by rw [← hR];simp [fieldV,idV,hb,hv])
   have e:=ha'.k
   refine ⟨i+2,by omega,by rw [e.1];rfl,?_,?_,ha'.to.to,fun _=>?_,fun e=>by cases e⟩
   ·rw [if_pos rfl,nextP0,ha'.to.need]
   ·rw [if_pos rfl,e.2.2.1]
   ·unfold atFieldP;rw [e.1];rfl
  | false =>
   have ha':Ahd ws i (reqV f.req++nmW v :: R):=ha.app (by rw [← hR];simp [fieldV,idV,hb,hv])
   have e:=(req_ok h.req hq ha').2.2.1
   exact ⟨i,Nat.le_refl _,by rw [e];rfl,by rw [if_neg (by decide)],by rw [if_neg (by decide)];exact (h.id hb).symm,ha',fun e=>(by cases e),fun _=>rfl⟩
 obtain ⟨i1,a0,a1,a2,a3,a4,a5,a6⟩:=h1
 obtain ⟨b1,⟨k,b2,b3,b4⟩,-,b5⟩:=req_ok h.req hq a4
 have hat:atFieldP ws ⟨i,0⟩=true:=by
  cases hb:f.hasID with
  | true=>exact a5 hb
  | false=>have:=a6 hb;rw [this] at b5;exact b5
 obtain ⟨j,c1,c2,c3⟩:=typeP_ok h.ty k (nmW f.nm :: ((if f.hasIn then [sgW 61]++constV 13 f.ini else [])++us)) (b4.app (by rw [hv,← hR];simp))
 have d1:=plainN_ok c3 h.nm
 have d2:=c3.to
 cases hin:f.hasIn with
 | false =>
  rw [hin,if_neg (by decide)] at d2
  obtain ⟨c,r,rfl,hc⟩:=hsg
  have d3:isP ws [61] ⟨j+1,0⟩=false:=is_sg (show Ahd ws (j+1) (sgW c :: r) from d2) (by simpa using fun e=>hc e.symm)
  refine ⟨j+1,by omega,hat,?_,d2⟩
  unfold fieldP
  dsimp only
  rw [a1,a2,a3,b1,b3,c2]
  dsimp only
  rw [d1]
  dsimp only
  rw [d3,if_neg (by decide)]
  dsimp only
  rw [← h.no hin,← hin]
 | true =>
  rw [hin,if_pos rfl] at d2
  have d2':Ahd ws (j+1) (sgW 61 :: (constV 13 f.ini++us)):=d2.app (by simp)
  obtain ⟨m,e1,-,e2,e3⟩:=conP_ok 12 f.ini (h.ini hin) _ _ d2'.to
  refine ⟨m,by omega,hat,?_,e3⟩
  unfold fieldP
  dsimp only
  rw [a1,a2,a3,b1,b3,c2]
  dsimp only
  rw [d1]
  dsimp only
  rw [is_sg1 d2',if_pos rfl,nextP0,e2]
  dsimp only
  rw [← hin]
theorem args_ok {l:List Fld} (h:∀ f ∈ l,okRF tw f) (hl:l.length≤30) {i:Nat} {us:Vs} (ha:Ahd ws i (sgW 40 :: (fieldsV tw l++sgW 41 :: us))):∃ j,i<j∧fieldsP ws 40 41 ⟨i,0⟩=(l,⟨j,0⟩)∧Ahd ws j us:=by
 obtain ⟨m,c1,c2⟩:=comma_chn (p:=atFieldP ws) (read:=fieldP ws) (g:=fieldV tw) (c:=41) (by decide) (by decide) (by decide) (fun i us h=>atField_sg h) l (fun f hf=>field_ok (h f hf)) _ _ ha.to
 have:=c1.le
 refine ⟨m+1,by omega,?_,c2.to⟩
 unfold fieldsP
 dsimp only
 rw [ha.need,c1.read c2 30 hl]
 dsimp only
 rw [c2.need]
theorem atField_end {i:Nat} {us:Vs} (h:Ahd ws i (sgW 125 :: us)):atFieldP ws ⟨i,0⟩=false:=by
 unfold atFieldP
 rw [h.k.1,is_sg h (by decide),is_sg h (by decide),atType_sg h]
 rfl
theorem struct_ok {l:List Fld} (h:∀ f ∈ l,okRF tw f) (hl:l.length≤30) {i:Nat} {us:Vs} (ha:Ahd ws i (sgW 123 :: (l.flatMap (fldLV tw)++sgW 125 :: us))):∃ j,i<j∧fieldsP ws 123 125 ⟨i,0⟩=(l,⟨j,0⟩)∧Ahd ws j us:=by
 obtain ⟨m,c1,c2⟩:=tail_chn (p:=atFieldP ws) (read:=fieldP ws) (g:=fieldV tw) (c:=125) (fun i us h=>atField_end h) l (fun f hf=>field_ok (h f hf)) _ _ ha.to
 have:=c1.le
 refine ⟨m+1,by omega,?_,c2.to⟩
 unfold fieldsP
 dsimp only
 rw [ha.need,c1.read c2 30 hl]
 dsimp only
 rw [c2.need]
def okRM (m:Mem):Prop:=plainP m.nm=true∧(m.has=false→m.n=0)
def memW (m:Mem):Vs:=[nmW m.nm]++(if m.has then [sgW 61]++[(2,[],m.n,0)] else [])
theorem mem_ok {m:Mem} (h:okRM m):Rds ws (atPlainP ws) (memP ws) memW m:=by
 intro i us hsg ha
 have h0:Ahd ws i (nmW m.nm :: ((if m.has then [sgW 61]++[(2,[],m.n,0)] else [])++us)):=ha.app (by simp [memW])
 have hat:atPlainP ws ⟨i,0⟩=true:=by unfold atPlainP;rw [atName_nm h0,h0.k.2.1];exact h.1
 have d1:=plainN_ok h0 h.1
 have d2:=h0.to
 cases hb:m.has with
 | false =>
  rw [hb,if_neg (by decide)] at d2
  obtain ⟨c,r,rfl,hc⟩:=hsg
  refine ⟨i+1,by omega,hat,?_,d2⟩
  unfold memP
  dsimp only
  rw [d1]
  dsimp only
  rw [is_sg (show Ahd ws (i+1) (sgW c :: r) from d2) (by simpa using fun e=>hc e.symm),if_neg (by decide),← h.2 hb,← hb]
 | true =>
  rw [hb,if_pos rfl] at d2
  have d2':Ahd ws (i+1) (sgW 61 :: (2,[],m.n,0) :: us):=d2
  have e:=d2'.to.k
  refine ⟨i+3,by omega,hat,?_,d2'.to.to⟩
  unfold memP
  dsimp only
  rw [d1]
  dsimp only
  rw [is_sg1 d2',if_pos rfl,nextP0,if_pos e.1,e.2.2.1,← hb]
  rfl
variable (tw)
structure okRT (m:Met):Prop where
 nm:plainP m.nm=true
 ret:(m.ret=kVoid∧tw m.ret=[nmW kVoid])∨TyW 12 m.ret (tw m.ret)
 args:∀ f ∈ m.args,okRF tw f
 alen:m.args.length≤30
 thr:∀ f ∈ m.thr,okRF tw f
 tlen:m.thr.length≤30
def metW (m:Met):Vs :=
 oneV m.one++tw m.ret++[nmW m.nm]++[sgW 40]++fieldsV tw m.args++[sgW 41]++(if 0<m.thr.length then [nmW [116,104,114,111,119,115],sgW 40]++fieldsV tw m.thr++[sgW 41] else [])
variable {tw}
theorem met_ok {m:Met} (h:okRT tw m):Rds ws (atMetP ws) (metP ws) (metW tw) m:=by
 intro i us hsg ha
 obtain ⟨R,hR⟩:∃ R,nmW m.nm :: sgW 40 :: (fieldsV tw m.args++sgW 41 :: ((if 0<m.thr.length then [nmW [116,104,114,111,119,115],sgW 40]++fieldsV tw m.thr++[sgW 41] else [])++us))=R:=⟨_,rfl⟩
 have h0:Ahd ws i (oneV m.one++(tw m.ret++R)):=ha.app (by rw [← hR];simp [metW])
 have hret:∃ v vs,tw m.ret=nmW v :: vs∧v≠kOneway∧(v=kVoid∨(oftP v || qualP v)=true):=by
  rcases h.ret with ⟨-,e⟩ | e
  ·exact ⟨kVoid,[],e,by decide,.inl rfl⟩
  ·obtain ⟨v,vs,hv,hq⟩:=e.head
   exact ⟨v,vs,hv,(type_not hq).2.2.2,.inr hq⟩
 obtain ⟨v,vs,hv,hv1,hv2⟩:=hret
 have h1:∃ i1,i≤i1∧isP ws kOneway ⟨i,0⟩=m.one∧takeP ws kOneway ⟨i,0⟩=⟨i1,0⟩∧Ahd ws i1 (tw m.ret++R)∧atMetP ws ⟨i,0⟩=true:=by
  cases hb:m.one with
  | true =>
   have h0':Ahd ws i (nmW kOneway :: (tw m.ret++R)):=h0.app (by simp [oneV,hb,kOneway])
   refine ⟨i+1,Nat.le_succ _,is_yes h0',?_,h0'.to,?_⟩
   ·unfold takeP;rw [is_yes h0'];rfl
   ·unfold atMetP;rw [is_yes h0'];rfl
  | false =>
   have h0':Ahd ws i (nmW v :: (vs++R)):=h0.app (by simp [oneV,hb,hv])
   refine ⟨i,Nat.le_refl _,is_no h0' hv1,?_,h0'.app (by simp [hv]),?_⟩
   ·unfold takeP;rw [is_no h0' hv1];rfl
   ·unfold atMetP
    rcases hv2 with rfl | hq
    ·rw [is_yes h0'];simp
    ·rw [atType_nm h0' hq];simp
 obtain ⟨i1,a0,a1,a2,a3,a4⟩:=h1
 have h2:∃ j,i1<j∧(if isP ws kVoid ⟨i1,0⟩=true then ((wordP ws ⟨i1,0⟩).t,nextP ⟨i1,0⟩) else typeP ws 12 ⟨i1,0⟩)=(m.ret,⟨j,0⟩)∧Ahd ws j R:=by
  rcases h.ret with ⟨e1,e2⟩ | e
  ·have h3:Ahd ws i1 (nmW kVoid :: R):=a3.app (by rw [e2];rfl)
   refine ⟨i1+1,Nat.lt_succ_self _,?_,h3.to⟩
   rw [is_yes h3,if_pos rfl,h3.k.2.1,e1]
   rfl
  ·obtain ⟨u,us',hu,hq⟩:=e.head
   have h3:Ahd ws i1 (nmW u :: (us'++R)):=a3.app (by rw [hu];rfl)
   obtain ⟨j,c1,c2,c3⟩:=typeP_ok e i1 R a3
   exact ⟨j,c1,by rw [is_no h3 (type_not hq).2.2.1,if_neg (by decide)];exact c2,c3⟩
 obtain ⟨j,b1,b2,b3⟩:=h2
 rw [← hR] at b3
 have d1:=plainN_ok b3 h.nm
 obtain ⟨k,c1,c2,c3⟩:=args_ok h.args h.alen b3.to
 by_cases ht:0<m.thr.length
 ·rw [if_pos ht] at c3
  have c3':Ahd ws k (nmW kThrows :: sgW 40 :: (fieldsV tw m.thr++sgW 41 :: us)):=c3.app (by simp [kThrows])
  obtain ⟨n,e1,e2,e3⟩:=args_ok h.thr h.tlen c3'.to
  refine ⟨n,by omega,a4,?_,e3⟩
  unfold metP
  dsimp only
  rw [a1,a2,b2]
  dsimp only
  rw [d1]
  dsimp only
  rw [c2]
  dsimp only
  rw [is_yes c3',if_pos rfl,nextP0,e2]
 ·rw [if_neg ht] at c3
  have hnil:m.thr=[]:=by cases hm:m.thr with
   | nil=>rfl
   | cons _ _=>rw [hm] at ht;simp at ht
  obtain ⟨c,r,rfl,hc⟩:=hsg
  have c3':Ahd ws k (sgW c :: r):=c3
  refine ⟨k,by omega,a4,?_,c3'⟩
  unfold metP
  dsimp only
  rw [a1,a2,b2]
  dsimp only
  rw [d1]
  dsimp only
  rw [c2]
  dsimp only
  rw [is_sg c3' (by simp [kThrows]),if_neg (by decide)]
  dsimp only
  rw [← hnil]
end
end Go.Proofs.YtpfecpcgdfbekaaGreatDoor
namespace Go.Proofs.YtpfecpcgdfbekaaGreatDoor
section
variable {ws:List TokV} (tw:List UInt8→Vs)
inductive okRD:Dfn→Prop
 | typ {nm ty:List UInt8}:plainP nm=true→TyW 12 ty (tw ty)→okRD ⟨1,nm,ty,con0,[],[],[],[]⟩
 | con {nm ty:List UInt8} {c:Con}:plainP nm=true→TyW 12 ty (tw ty)→okR 13 c→okRD ⟨3,nm,ty,c,[],[],[],[]⟩
 | enm {nm:List UInt8} {ms:List Mem}:plainP nm=true→(∀ m ∈ ms,okRM m)→ms.length≤30→okRD ⟨2,nm,[],con0,[],ms,[],[]⟩
 | stc {k:Nat} {nm:List UInt8} {fs:List Fld}:k=4∨k=5∨k=6→plainP nm=true→(∀ f ∈ fs,okRF tw f)→fs.length≤30→okRD ⟨k,nm,[],con0,fs,[],[],[]⟩
 | svc {nm ext:List UInt8} {ms:List Met}:plainP nm=true→ext=[]∨qualP ext=true→(∀ m ∈ ms,okRT tw m)→ms.length≤30→okRD ⟨7,nm,[],con0,[],[],ext,ms⟩
variable {tw}
theorem okRD.head {d:Dfn} (h:okRD tw d):∃ t vs,defV tw d=nmW t :: vs∧t≠[44]∧t≠[59]∧t≠kInclude∧t≠kNamespace∧defK t≠0:=by
 cases h with
 | typ _ _=>exact ⟨kwT 1,_,rfl,by decide,by decide,by decide,by decide,by decide⟩
 | con _ _ _=>exact ⟨kwT 3,_,rfl,by decide,by decide,by decide,by decide,by decide⟩
 | enm _ _ _=>exact ⟨kwT 2,_,rfl,by decide,by decide,by decide,by decide,by decide⟩
 | stc hk _ _ _ =>
  rcases hk with rfl | rfl | rfl
  ·exact ⟨kwT 4,_,rfl,by decide,by decide,by decide,by decide,by decide⟩
  ·exact ⟨kwT 5,_,rfl,by decide,by decide,by decide,by decide,by decide⟩
  ·exact ⟨kwT 6,_,rfl,by decide,by decide,by decide,by decide,by decide⟩
 | svc _ _ _ _=>exact ⟨kwT 7,_,rfl,by decide,by decide,by decide,by decide,by decide⟩
theorem atPlain_end {i:Nat} {us:Vs} (h:Ahd ws i (sgW 125 :: us)):atPlainP ws ⟨i,0⟩=false:=by
 unfold atPlainP atNameP
 rw [h.k.1];rfl
theorem atMet_end {i:Nat} {us:Vs} (h:Ahd ws i (sgW 125 :: us)):atMetP ws ⟨i,0⟩=false:=by
 unfold atMetP
 rw [is_sg h (by decide),is_sg h (by decide),atType_sg h]
 rfl
theorem atDef_nm {i:Nat} {t:List UInt8} {us:Vs} (h:Ahd ws i (nmW t :: us)) (ht:defK t≠0):atDefP ws ⟨i,0⟩=true:=by
 unfold atDefP
 rw [atName_nm h,h.k.2.1]
 exact decide_eq_true ht
theorem def_ok {d:Dfn} (h:okRD tw d):∀ i us,Ahd ws i (defV tw d++us)→∃ j,i<j∧atDefP ws ⟨i,0⟩=true∧defP ws ⟨i,0⟩=(d,⟨j,0⟩)∧Ahd ws j us:=by
 intro i us ha
 cases h with
 | @typ nm ty hn ht =>
  have h0:Ahd ws i (nmW (kwT 1) :: (tw ty++nmW nm :: us)):=ha.app (by simp [defV])
  obtain ⟨j,c1,c2,c3⟩:=typeP_ok ht _ _ h0.to
  refine ⟨j+1,by omega,atDef_nm h0 (by decide),?_,c3.to⟩
  unfold defP
  dsimp only
  rw [h0.k.2.1,show defK (nmW (kwT 1)).2.1=1 by decide,if_pos (by decide),nextP0,c2]
  dsimp only
  rw [plainN_ok c3 hn]
  rfl
 | @con nm ty c hn ht hc =>
  have h0:Ahd ws i (nmW (kwT 3) :: (tw ty++nmW nm :: sgW 61 :: (constV 13 c++us))):=ha.app (by simp [defV])
  obtain ⟨j,c1,c2,c3⟩:=typeP_ok ht _ _ h0.to
  obtain ⟨k,d1,-,d2,d3⟩:=conP_ok 12 c hc _ _ c3.to.to
  refine ⟨k,by omega,atDef_nm h0 (by decide),?_,d3⟩
  unfold defP
  dsimp only
  rw [h0.k.2.1,show defK (nmW (kwT 3)).2.1=3 by decide,if_pos (by decide),nextP0,c2]
  dsimp only
  rw [plainN_ok c3 hn]
  dsimp only
  unfold bodyP
  rw [if_pos rfl,c3.to.need]
  dsimp only
  rw [d2]
 | @enm nm ms hn hm hl =>
  have h0:Ahd ws i (nmW (kwT 2) :: nmW nm :: sgW 123 :: (ms.flatMap memV++sgW 125 :: us)):=ha.app (by simp [defV,extV])
  obtain ⟨m,c1,c2⟩:=tail_chn (p:=atPlainP ws) (read:=memP ws) (g:=memW) (c:=125) (fun i us h=>atPlain_end h) ms (fun x hx=>mem_ok (hm x hx)) _ _ h0.to.to.to
  have:=c1.le
  refine ⟨m+1,by omega,atDef_nm h0 (by decide),?_,c2.to⟩
  unfold defP
  dsimp only
  rw [h0.k.2.1,show defK (nmW (kwT 2)).2.1=2 by decide,if_neg (by decide),nextP0]
  dsimp only
  rw [plainN_ok h0.to hn]
  dsimp only
  unfold bodyP
  rw [if_neg (by decide),if_pos rfl]
  dsimp only
  rw [h0.to.to.need,c1.read c2 30 hl]
  dsimp only
  rw [c2.need]
 | @stc k nm fs hk hn hf hl =>
  have hkd:defK (kwT k)=k∧k≠1∧k≠3∧k≠2∧defK (kwT k)≠0:=by rcases hk with rfl | rfl | rfl <;> decide
  obtain ⟨e1,e2,e3,e4,e5⟩:=hkd
  have h0:Ahd ws i (nmW (kwT k) :: nmW nm :: sgW 123 :: (fs.flatMap (fldLV tw)++sgW 125 :: us)):=ha.app (by unfold defV;dsimp only;rw [if_neg e2,if_neg e3];simp [extV])
  obtain ⟨m,c1,c2,c3⟩:=struct_ok hf hl h0.to.to
  refine ⟨m,by omega,atDef_nm h0 e5,?_,c3⟩
  unfold defP
  dsimp only
  rw [h0.k.2.1,show defK (nmW (kwT k)).2.1=k from e1,if_neg (by omega),nextP0]
  dsimp only
  rw [plainN_ok h0.to hn]
  dsimp only
  unfold bodyP
  rw [if_neg e3,if_neg e4,if_pos hk]
  dsimp only
  rw [c2]
 | @svc nm ext ms hn hx hm hl =>
  have h0:Ahd ws i (nmW (kwT 7) :: nmW nm :: (extV ext++sgW 123 :: (ms.flatMap (methodV tw)++sgW 125 :: us))):=ha.app (by simp [defV])
  have h1:∃ k,i+2≤k∧(if isP ws kExtends ⟨i+1+1,0⟩=true then qualN ws (nextP ⟨i+1+1,0⟩) else ([],⟨i+1+1,0⟩))=(ext,⟨k,0⟩)∧Ahd ws k (sgW 123 :: (ms.flatMap (methodV tw)++sgW 125 :: us)):=by
   have h2:=h0.to.to
   by_cases he:ext=[]
   ·subst he
    rw [show extV []=[] from rfl] at h2
    have h3:Ahd ws (i+1+1) (sgW 123 :: (ms.flatMap (methodV tw)++sgW 125 :: us)):=h2
    exact ⟨i+2,Nat.le_refl _,by rw [is_sg h3 (by decide),if_neg (by decide)],h3⟩
   ·have hq:=hx.resolve_left he
    have h3:Ahd ws (i+1+1) (nmW kExtends :: nmW ext :: sgW 123 :: (ms.flatMap (methodV tw)++sgW 125 :: us)):=h2.app (by unfold extV;rw [if_neg he];simp [kExtends])
    exact ⟨i+4,by omega,by rw [is_yes h3,if_pos rfl,nextP0,qualN_ok h3.to hq],h3.to.to⟩
  obtain ⟨k,a1,a2,a3⟩:=h1
  obtain ⟨m,c1,c2⟩:=tail_chn (p:=atMetP ws) (read:=metP ws) (g:=metW tw) (c:=125) (fun i us h=>atMet_end h) ms (fun x hx=>met_ok (hm x hx)) _ _ a3.to
  have:=c1.le
  refine ⟨m+1,by omega,atDef_nm h0 (by decide),?_,c2.to⟩
  unfold defP
  dsimp only
  rw [h0.k.2.1,show defK (nmW (kwT 7)).2.1=7 by decide,if_neg (by decide),nextP0]
  dsimp only
  rw [plainN_ok h0.to hn]
  dsimp only
  unfold bodyP
  rw [if_neg (by decide),if_neg (by decide),if_neg (by decide),if_pos rfl]
  dsimp only
  rw [a2]
  dsimp only
  rw [a3.need,c1.read c2 30 hl]
  dsimp only
  rw [c2.need]
def endW:Nat×List UInt8×Int×Nat:=(6,[],0,0)
theorem end_is (t:List UInt8):isV t endW=false:=rfl
theorem def_chn:∀ (l:List Dfn),(∀ d ∈ l,okRD tw d)→∀ i,Ahd ws i (l.flatMap (defV tw)++[endW])→∃ m,Chn ws (atDefP ws) (defP ws) i l m∧Ahd ws m [endW]
 | [],_,i,h=>⟨i,.nil (by
   have h0:Ahd ws i (endW :: []):=h
   unfold atDefP atNameP
   rw [h0.k.1];rfl),h⟩
 | d :: r,hl,i,h=>by
  obtain ⟨j,a1,a2,a3,a4⟩:=def_ok (hl d (by simp)) i (r.flatMap (defV tw)++[endW]) (h.app (by simp))
  obtain ⟨m,b1,b2⟩:=def_chn r (fun x hx=>hl x (by simp [hx])) j a4
  refine ⟨m,.cons a2 a1 a3 ?_ (Nat.le_refl _) b1,b2⟩
  cases r with
  | nil=>exact sepP_no (show Ahd ws j (endW :: []) from a4) (end_is _) (end_is _)
  | cons x r =>
   obtain ⟨t,vs,e,n1,n2,-⟩:=(hl x (by simp)).head
   exact sepP_no (show Ahd ws j (nmW t :: (vs++(r.flatMap (defV tw)++[endW]))) from a4.app (by simp [e])) (by rw [nm_is];exact decide_eq_false n1) (by rw [nm_is];exact decide_eq_false n2)
def NH (us:Vs):Prop:=∃ v r,us=v :: r∧isV kInclude v=false∧isV kNamespace v=false
theorem defs_nh {l:List Dfn} (h:∀ d ∈ l,okRD tw d):NH (l.flatMap (defV tw)++[endW]):=by
 cases l with
 | nil=>exact ⟨endW,[],rfl,end_is _,end_is _⟩
 | cons d r =>
  obtain ⟨t,vs,e,-,-,n1,n2,-⟩:=(h d (by simp)).head
  exact ⟨nmW t,vs++(r.flatMap (defV tw)++[endW]),by simp [e],by rw [nm_is];exact decide_eq_false n1,by rw [nm_is];exact decide_eq_false n2⟩
def okRS (s:Spc):Prop:=(s.scope=[42]∨qualP s.scope=true)∧qualP s.nm=true
theorem spc_ok {s:Spc} (h:okRS s) {i:Nat} {us:Vs} (ha:Ahd ws i (spcV s++us)):spcP ws ⟨i,0⟩=(s,⟨i+3,0⟩)∧Ahd ws (i+3) us:=by
 have h0:Ahd ws i (nmW kNamespace :: scW s.scope :: nmW s.nm :: us):=ha
 have h1:=h0.to
 refine ⟨?_,h1.to.to⟩
 have h2:(if isP ws [42] ⟨i+1,0⟩=true then ((wordP ws ⟨i+1,0⟩).t,nextP ⟨i+1,0⟩) else qualN ws ⟨i+1,0⟩)=(s.scope,⟨i+2,0⟩):=by
  unfold scW at h1
  by_cases hs:s.scope=[42]
  ·rw [if_pos hs] at h1
   rw [is_sg1 h1,if_pos rfl,h1.k.2.1,hs]
   rfl
  ·rw [if_neg hs] at h1
   rw [is_no h1 hs,if_neg (by decide),qualN_ok h1 (h.1.resolve_left hs)]
 unfold spcP
 dsimp only
 rw [nextP0,h2]
 dsimp only
 rw [qualN_ok h1.to h.2]
theorem inc_ok {s:List UInt8} (h:plainP s=true) {i:Nat} {us:Vs} (ha:Ahd ws i (incWV s++us)):incP ws ⟨i,0⟩=(s,⟨i+2,0⟩)∧Ahd ws (i+2) us:=by
 have h0:Ahd ws i (nmW kInclude :: (4,s,0,0) :: us):=ha
 have e:=h0.to.k
 refine ⟨?_,h0.to.to⟩
 unfold incP
 dsimp only
 rw [nextP0,e.1,e.2.1]
 dsimp only
 rw [h]
 rfl
theorem rd_heads_spc:∀ (l:List Spc),(∀ s ∈ l,okRS s)→∀ (f i:Nat) (a:List (List UInt8)) (b:List Spc) (us:Vs),NH us→Ahd ws i (l.flatMap spcV++us)→b.length+l.length≤5→l.length<f →
  ∃ j,headsP ws f a b ⟨i,0⟩=((a,b++l),⟨j,0⟩)∧Ahd ws j us
 | [],_,f+1,i,a,b,us,hn,h,_,_=>by
  obtain ⟨v,r,rfl,n1,n2⟩:=hn
  have h0:Ahd ws i (v :: r):=h
  refine ⟨i,?_,h0⟩
  unfold headsP
  rw [h0.is,n1,if_neg (by decide),h0.is,n2,if_neg (by decide),List.append_nil]
 | s :: l,hl,f+1,i,a,b,us,hn,h,hb,hf=>by
  simp only [List.length_cons] at hb hf
  have h':Ahd ws i (spcV s++(l.flatMap spcV++us)):=h.app (by simp)
  obtain ⟨e1,e2⟩:=spc_ok (hl s (by simp)) h'
  have h0:Ahd ws i (nmW kNamespace :: scW s.scope :: nmW s.nm :: (l.flatMap spcV++us)):=h'
  have ha:addP 5 (spcP ws) b ⟨i,0⟩=(b++[s],⟨i+3,0⟩):=by
   unfold addP
   rw [if_neg (by omega),e1]
  obtain ⟨j,c1,c2⟩:=rd_heads_spc l (fun x hx=>hl x (by simp [hx])) f (i+3) a (b++[s]) us hn e2 (by simp;omega) (by omega)
  refine ⟨j,?_,c2⟩
  unfold headsP
  rw [is_no h0 (by decide),if_neg (by decide),is_yes h0,if_pos rfl,ha]
  dsimp only
  rw [c1]
  simp
theorem rd_heads_inc {sl:List Spc} (hs:∀ s ∈ sl,okRS s) (hsl:sl.length≤5):∀ (l:List (List UInt8)),(∀ s ∈ l,plainP s=true)→∀ (f i:Nat) (a:List (List UInt8)) (us:Vs),NH us→Ahd ws i (l.flatMap incWV++(sl.flatMap spcV++us))→a.length+l.length≤5→l.length+sl.length<f →
  ∃ j,headsP ws f a [] ⟨i,0⟩=((a++l,sl),⟨j,0⟩)∧Ahd ws j us
 | [],_,f,i,a,us,hn,h,_,hf=>by
  obtain ⟨j,c1,c2⟩:=rd_heads_spc sl hs f i a [] us hn h (by simpa using hsl) (by simpa using hf)
  exact ⟨j,by rw [c1];simp,c2⟩
 | s :: l,hl,f+1,i,a,us,hn,h,hb,hf=>by
  simp only [List.length_cons] at hb hf
  have h':Ahd ws i (incWV s++(l.flatMap incWV++(sl.flatMap spcV++us))):=h.app (by simp)
  obtain ⟨e1,e2⟩:=inc_ok (hl s (by simp)) h'
  have h0:Ahd ws i (nmW kInclude :: (4,s,0,0) :: (l.flatMap incWV++(sl.flatMap spcV++us))):=h'
  have ha:addP 5 (incP ws) a ⟨i,0⟩=(a++[s],⟨i+2,0⟩):=by
   unfold addP
   rw [if_neg (by omega),e1]
  obtain ⟨j,c1,c2⟩:=rd_heads_inc hs hsl l (fun x hx=>hl x (by simp [hx])) f (i+2) (a++[s]) us hn e2 (by simp;omega) (by omega)
  refine ⟨j,?_,c2⟩
  unfold headsP
  rw [is_yes h0,if_pos rfl,ha]
  dsimp only
  rw [c1]
  simp
variable (tw)
structure okRFil (f:Fil):Prop where
 incs:∀ s ∈ f.incs,plainP s=true
 ilen:f.incs.length≤5
 spaces:∀ s ∈ f.spaces,okRS s
 slen:f.spaces.length≤5
 defs:∀ d ∈ f.defs,okRD tw d
 dlen:f.defs.length≤30
variable {tw}
theorem rd_flat_len {α:Type} (g:α→Vs) (h:∀ x,0<(g x).length):∀ l:List α,l.length≤(l.flatMap g).length
 | []=>Nat.le_refl _
 | x :: l=>by
  have:=rd_flat_len g h l
  have:=h x
  simp;simp at *;omega
theorem file_ok {f:Fil} (h:okRFil tw f) (ha:Ahd ws 0 (fileV tw f++[endW])):∃ m,fileP ws ⟨0,0⟩=(f,⟨m,0⟩):=by
 have hlen:ws.length=(fileV tw f++[endW]).length:=by rw [← ha];simp
 have e1:=rd_flat_len incWV (fun _=>by simp [incWV]) f.incs
 have e2:=rd_flat_len spcV (fun _=>by simp [spcV]) f.spaces
 have hw:f.incs.length+f.spaces.length<ws.length+1:=by rw [hlen];unfold fileV;simp only [List.length_append];omega
 have ha':Ahd ws 0 (f.incs.flatMap incWV++(f.spaces.flatMap spcV++(f.defs.flatMap (defV tw)++[endW]))):=ha.app (by simp [fileV])
 obtain ⟨j,c1,c2⟩:=rd_heads_inc h.spaces h.slen f.incs h.incs (ws.length+1) 0 [] _ (defs_nh h.defs) ha' (by simpa using h.ilen) hw
 obtain ⟨m,d1,d2⟩:=def_chn f.defs h.defs j c2
 refine ⟨m,?_⟩
 unfold fileP
 dsimp only
 rw [c1]
 dsimp only
 rw [d1.read (show Ahd ws m (endW :: []) from d2) 30 h.dlen]
 dsimp only
 rw [(show Ahd ws m (endW :: []) from d2).k.1,if_pos (show endW.1=6 from rfl),List.nil_append]
theorem parse_back {f:Fil} (h:okRFil tw f) {L:List UInt8} {ts:List TokV} (hl:lexS L=(ts,0,0)) (hb:ts.map bare=fileV tw f++[endW]):parseF L=(f,0,0):=by
 obtain ⟨m,e⟩:=file_ok (ws:=ts) h hb
 unfold parseF
 rw [hl]
 dsimp only
 rw [if_neg (by decide),e]
 dsimp only
 rw [if_neg (by decide)]
end
end Go.Proofs.YtpfecpcgdfbekaaGreatDoor
