/- The contract of the document's lexer: space. The contracts of the document's lexer: digits. The contract of the document's lexer: digits in tens, with a sign. The contracts of token's digits as numbers (what is plain of it). The type of slices of bytes, and of bytes. The contracts of token's names, quoted texts (what is plain of it). -/
import Derived.Test.YtpfecpcgdfbekaaGreatDoorG01
import Derived.Test.YtpfecpcgdfbekaaGreatDoorG00
import Derived.IntWalk
import Derived.Test.YtpfecpcgdfbekaaGreatDoorProg
import Derived.Lib.SmallJoins
import Derived.Laws.Rows
import Derived.Laws.ResultCell
set_option linter.unusedVariables false
set_option linter.unusedSimpArgs false
set_option linter.unnecessarySimpa false
namespace Go.Proofs.YtpfecpcgdfbekaaGreatDoor
open Go.RowKit
def atL (b:Nat) (w:World):Nat:=match w.cell? ⟨b,1,none⟩ with
 | some (.int _ n)=>n.toNat
 | _=>0
theorem spanN_lt (p:UInt8→Bool) (l:List UInt8) (m:Nat) (h:m≤spanN p l):m<spanN p l↔∃ h:m<l.length,p l[m]=true:=by
 have hle:=spanN_le p l
 constructor
 ·intro hm
  refine ⟨by omega,spanN_take p l _ ?_⟩
  rw [List.mem_take_iff_getElem]
  exact ⟨m,by omega,rfl⟩
 ·rintro ⟨h1,h2⟩
  rcases Nat.lt_or_ge m (spanN p l) with h3 | h3
  ·exact h3
  ·have:m=spanN p l:=by omega
   subst this
   rcases spanN_drop p l with e | ⟨c,t,e,hc⟩
   ·rw [List.drop_eq_nil_iff] at e;omega
   ·have e2:=List.drop_eq_getElem_cons h1
    rw [e2] at e
    injection e with e3 e4
    rw [e3] at h2
    rw [hc] at h2;cases h2
theorem Tx.byte {s:ByteArray} {l:List UInt8} (h:Tx s l) (o:Nat) (c:UInt8) (r:List UInt8) (hd:l.drop o=c :: r):o<l.length∧∃ hp:o<s.size,s[o]'hp=c:=by
 have h1:o<l.length:=by
  rcases Nat.lt_or_ge o l.length with h | h
  ·exact h
  ·rw [List.drop_eq_nil_iff.2 h] at hd;cases hd
 obtain ⟨hp,e⟩:=h.idx o h1
 refine ⟨h1,hp,?_⟩
 rw [e]
 have e2:=List.drop_eq_getElem_cons h1
 rw [e2] at hd
 injection hd
theorem Lxb.at_ {w:World} {b:Nat} {s:ByteArray} {i e a:Nat} (h:Lxb w b s i e a):atL b w=i:=by
 unfold atL
 rw [show w.cell? ⟨b,1,none⟩=some (.int .i64 (i:Int)) from h.cell 1]
 simp
theorem line_at (l:List UInt8) (m N:Nat) (hN:lineN l=N) (hm:m≤N):(m<N→∃ d t,l.drop m=d :: t∧d≠10)∧(m=N→l.drop m=[]∨∃ t,l.drop m=10 :: t):=by
 constructor
 ·intro h
  obtain ⟨h1,h2⟩:=(spanN_lt (fun c=>decide (c≠10)) l m (by rw [show spanN (fun c=>decide (c≠10)) l=N from hN];exact hm)).1 (by rw [show spanN (fun c=>decide (c≠10)) l=N from hN];exact h)
  exact ⟨_,_,List.drop_eq_getElem_cons h1,of_decide_eq_true h2⟩
 ·rintro rfl
  have h:=spanN_drop (fun c=>decide (c≠10)) l
  rw [show spanN (fun c=>decide (c≠10)) l=m from hN] at h
  rcases h with h | ⟨c,t,h,hc⟩
  ·exact .inl h
  ·right
   have:c=10:=by simpa using hc
   subst this
   exact ⟨t,h⟩
set_option maxRecDepth 100000 in
set_option maxHeartbeats 12800000 in
theorem space_any (b:Nat) (s:ByteArray) (l:List UInt8) (o:Nat) (w:World) (hB:Lxb w b s o 0 0) (hl:Tx s l) (ho:o≤l.length) (hs:(l.length:Int)≤8000) :
  Calls Tryz.prog 68 #[.pointer (some ⟨b,0,none⟩)] w fun e w'=>e = .returned (.tuple #[]) ∧
   ((skipS (l.drop o)).2=true→Lxb w' b s (o+(skipS (l.drop o)).1) 0 0)∧((skipS (l.drop o)).2=false→Lxb w' b s (o+(skipS (l.drop o)).1) 2 (o+(skipS (l.drop o)).1))∧Oth b w w':=by
 have HL:=Lib.hid hl
 have HB:=Lib.hid hB
 have hz:(s.size:Int)=(l.length:Int):=by rw [hl.size]
 obtain ⟨P,hP⟩:∃ P,Hid (skipS (l.drop o)=P):=⟨_,rfl⟩
 rw [hP.out]
 obtain ⟨pn,pb⟩:=P
 dsimp only
 clear hl hB
 go_enter Tryz.func68,Tryz.ntmps68
 go_wp2_with fail
 go_loopw [] (fun wr=>∃ n:Nat,Lxb wr b s (o+n) 0 0∧o+n≤l.length∧Hid (pn=n+(skipS (l.drop (o+n))).1∧(skipS (l.drop (o+n))).2=pb)∧Oth b w wr) (fun wr=>10000 - atL b wr)
 case atStart=>exact ⟨0,HB.out,ho,by unfold Hid;simp [hP.out],Oth.refl _ _⟩
 case round =>
  obtain ⟨n,hC,hn,HS,hO⟩:=hrel
  obtain ⟨l1,hl1⟩:∃ l1,Hid (l.drop (o+n)=l1):=⟨_,rfl⟩
  rw [hl1.out] at HS
  have hl1n:l1.length+(o+n)=l.length:=by rw [← hl1.out];simp;omega
  obtain ⟨O,hOn⟩:∃ O,o+n=O:=⟨_,rfl⟩
  rw [hOn] at hC hn hl1 hl1n
  have hat:atL b wr=O:=by unfold atL;rw [show wr.cell? ⟨b,1,none⟩=some (.int .i64 (O:Int)) from hC.cell 1];simp
  have HC:=Lib.hid hC
  have HO:=Lib.hid hO
  obtain ⟨c0,c1,c2,c3,f0,f1,f2,f3⟩:=hC.cells
  clear hC hO
  cases l1 with
  | nil =>
   have g1:decide ((O:Int)<(l.length:Int))=false:=decide_eq_false (by simp at hl1n;omega)
   have g2:¬ O<l.length:=by simp at hl1n;omega
   have HS2:Hid (pn=n∧pb=true):=by
    have:=HS.out
    rw [show skipS []=(0,true) from rfl] at this
    exact ⟨this.1,this.2.symm⟩
   go_wp2_with fail
   go_quiet (fail)
   go_wp2_with fail
   go_end0
   obtain ⟨rfl,rfl⟩:=HS2.out
   exact ⟨rfl,fun _=>by rw [hOn];exact HC.out,fun h=>by simp at h,(HO.out.trans (Oth.nx ((Nx.refl _).dr _)))⟩
  | cons c r =>
   obtain ⟨hOl,hOs,hc⟩:=HL.out.byte O c r hl1.out
   have g1:decide ((O:Int)<(l.length:Int))=true:=decide_eq_true (by omega)
   have g1':(O:Int)<(l.length:Int):=by omega
   have g2:(O:Int)<(s.size:Int):=by omega
   have hO8:(O:Int)≤8000:=by omega
   have hst:∀ (a b:UInt8) (w:World),Calls Tryz.prog 93 #[.string s,.int .i64 (O:Int),.string ⟨#[a,b]⟩] w fun e w'=>e = .returned (.bool (decide (c=a∧r.head? = some b)))∧w'=w:=by
    intro a b w
    have:=starts_any s l O a b w HL.out (by omega) (by omega)
    rw [hl1.out] at this
    have e:decide ((c :: r).head? = some a∧((c :: r).drop 1).head? = some b)=decide (c=a∧r.head? = some b):=by simp
    rw [e] at this
    exact this
   obtain ⟨B2,hB2⟩:∃ B,Hid (decide (c=47∧r.head? = some 47)=B):=⟨_,rfl⟩
   obtain ⟨B3,hB3⟩:∃ B,Hid (decide (c=47∧r.head? = some 42)=B):=⟨_,rfl⟩
   have hst2:=fun w=>hst 47 47 w
   have hst3:=fun w=>hst 47 42 w
   rw [hB2.out] at hst2
   rw [hB3.out] at hst3
   clear hst
   go_wp2_with fail
   go_quiet (fail)
   go_wp2_with fail
   go_quiet (fail)
   generalize hW:World.drewN (World.drewN wr _) _=w1
   have hC1:Lxb w1 b s O 0 0:=by rw [← hW];exact (HC.out.drew _).drew _
   have hO1:Oth b w w1:=by rw [← hW];exact HO.out.trans (Oth.nx (((Nx.refl _).dr _).dr _))
   clear hW c0 c1 c2 c3 f0 f1 f2 f3 hOs hc
   have HC1:=Lib.hid hC1
   have HO1:=Lib.hid hO1
   obtain ⟨c0,c1,c2,c3,f0,f1,f2,f3⟩:=hC1.cells
   clear hC1 hO1
   by_cases hwh:isWhS c=true
   ·have HSK:=Lib.hid (skip_white c r hwh)
    have h4:((c.toNat:Int) == 9)=true∨((c.toNat:Int) == 9)=false∧(((c.toNat:Int) == 10)=true∨((c.toNat:Int) == 10)=false∧(((c.toNat:Int) == 13)=true∨((c.toNat:Int) == 13)=false∧((c.toNat:Int) == 32)=true)):=by
     unfold isWhS at hwh
     simp only [beq_iff_eq,beq_eq_false_iff_ne]
     simp at hwh
     omega
    clear hwh
    rcases h4 with b1 | ⟨b1,b2 | ⟨b2,b3 | ⟨b3,b4⟩⟩⟩
    all_goals
     go_wp2_with fail
     go_roundw
     case rel =>
      refine ⟨n+1,?_,by omega,?_,HO1.out.own⟩
      ·have e:(O:Int)+1=((o+(n+1):Nat):Int):=by omega
       rw [e]
       exact HC1.out.put1 _
      ·unfold Hid
       have hd:l.drop (o+(n+1))=r:=by
        rw [show o+(n+1)=O+1 by omega,← List.drop_drop,hl1.out];rfl
       rw [hd]
       have h1:=HS.out
       rw [HSK.out] at h1
       exact ⟨by rw [h1.1];omega,h1.2⟩
     case measure =>
      have e:(O:Int)+1=((O+1:Nat):Int):=by omega
      rw [e]
      have h1:=HC1.out.put1 (O+1)
      rw [h1.at_,hat]
      omega
   ·have hwf:((c.toNat:Int) == 9)=false∧((c.toNat:Int) == 10)=false∧((c.toNat:Int) == 13)=false∧((c.toNat:Int) == 32)=false:=by
     unfold isWhS at hwh
     simp only [beq_eq_false_iff_ne]
     simp at hwh
     omega
    obtain ⟨b1,b2,b3,b4⟩:=hwf
    have HWF:Hid (isWhS c=false):=by unfold Hid;simpa using hwh
    clear hwh
    have hln:(((c.toNat:Int) == 35)=true∨((c.toNat:Int) == 35)=false∧B2=true)∨(((c.toNat:Int) == 35)=false∧B2=false):=by
     cases h:((c.toNat:Int) == 35)
     ·cases B2
      ·exact .inr ⟨rfl,rfl⟩
      ·exact .inl (.inr ⟨rfl,rfl⟩)
     ·exact .inl (.inl rfl)
    rcases hln with hln | ⟨b35,rfl⟩
    ·have HLN:Hid (c=35∨(c=47∧r.head? = some 47)):=by
      rcases hln with h | ⟨_,h⟩
      ·left;rw [beq_iff_eq] at h;apply UInt8.toNat_inj.1;have:c.toNat=35:=by omega
       rw [this];rfl
      ·right;subst h;exact of_decide_eq_true hB2.out
     have HSK:=Lib.hid (skip_line c r HLN.out)
     rcases hln with b35 | ⟨b35,rfl⟩
     all_goals
      go_wp2_with fail
      go_quiet (exact Calls.quiet_of_same (hst2 _))
      generalize hW:World.drewN w1 _=w2
      have hC2:Lxb w2 b s O 0 0:=by rw [← hW];exact HC1.out.drew _
      have hO2:Oth b w w2:=by rw [← hW];exact HO1.out.trans (Oth.nx ((Nx.refl _).dr _))
      clear hW c0 c1 c2 c3 f0 f1 f2 f3
      obtain ⟨N,hN⟩:∃ N,Hid (lineN (c :: r)=N):=⟨_,rfl⟩
      have hNl:O+N≤l.length:=by
       have h1:=spanN_le (fun c=>decide (c≠10)) (c :: r)
       rw [show spanN (fun c=>decide (c≠10)) (c :: r)=N from hN.out] at h1
       omega
      go_wp2_with fail
      go_loopw [] (fun wx=>∃ m:Nat,Lxb wx b s (O+m) 0 0∧m≤N∧Oth b w wx) (fun wx=>10000 - atL b wx)
      case atStart=>exact ⟨0,hC2,Nat.zero_le _,hO2⟩
      case round =>
       obtain ⟨m,hCm,hmN,hOm⟩:=hrel
       have hln:=line_at (c :: r) m N hN.out hmN
       have hdr:l.drop (O+m)=(c :: r).drop m:=by rw [← hl1.out,List.drop_drop]
       rw [← hdr] at hln
       obtain ⟨O2,hO2e⟩:∃ O2,O+m=O2:=⟨_,rfl⟩
       rw [hO2e] at hCm hln
       have hat2:=hCm.at_
       have HCm:=Lib.hid hCm
       have HOm:=Lib.hid hOm
       obtain ⟨c0,c1,c2,c3,f0,f1,f2,f3⟩:=hCm.cells
       clear hCm hOm hdr hC2 hO2
       by_cases hlt:m<N
       ·obtain ⟨d,t,hd,hd10⟩:=hln.1 hlt
        obtain ⟨h2l,h2s,h2c⟩:=HL.out.byte O2 d t hd
        have k1:decide ((O2:Int)<(l.length:Int))=true:=decide_eq_true (by omega)
        have k2:(O2:Int)<(s.size:Int):=by omega
        have k3:((d.toNat:Int) != 10)=true:=by
         simp
         intro h
         exact hd10 (UInt8.toNat_inj.1 (by
           have:d.toNat=10:=by omega
           rw [this];rfl))
        have k4:(O2:Int)≤8000:=by omega
        clear hln hd10 hd
        go_wp2_with fail
        go_quiet (fail)
        generalize hW:World.drewN _ _=w3
        have hC3:Lxb w3 b s O2 0 0:=by rw [← hW];exact HCm.out.drew _
        have hO3:Oth b w w3:=by rw [← hW];exact HOm.out.trans (Oth.nx ((Nx.refl _).dr _))
        clear hW c0 c1 c2 c3 f0 f1 f2 f3
        have HC3:=Lib.hid hC3
        obtain ⟨c0,c1,c2,c3,f0,f1,f2,f3⟩:=hC3.cells
        clear hC3
        go_wp2_with fail
        have e:(O2:Int)+1=((O2+1:Nat):Int):=by omega
        go_roundw
        case rel =>
         rw [e]
         refine ⟨m+1,?_,hlt,hO3.own⟩
         rw [show O+(m+1)=O2+1 by omega]
         exact HC3.out.put1 _
        case measure =>
         rw [e,(HC3.out.put1 (O2+1)).at_,hat2]
         omega
       ·obtain rfl:m=N:=by omega
        have HE:Hid (O2≤l.length∧pn=(n+m)+(skipS (l.drop O2)).1∧(skipS (l.drop O2)).2=pb):=by
         have h1:=HS.out
         rw [HSK.out.1] at h1
         have hd:(c :: r).drop (lineN (c :: r))=l.drop O2:=by rw [hN.out,← hO2e,← List.drop_drop,hl1.out]
         rw [hd,hN.out] at h1
         exact ⟨by omega,by rw [h1.1];dsimp only;omega,h1.2⟩
        have HM0:Hid (m≠0):=by unfold Hid;rw [← hN.out];exact HSK.out.2
        have hend:=hln.2 rfl
        clear hln hlt
        have hk:decide ((O2:Int)<(l.length:Int))=false∧¬ O2<l.length∨∃ hp:O2<s.size,decide ((O2:Int)<(l.length:Int))=true∧O2<l.length∧(O2:Int)<(s.size:Int)∧∃ d:UInt8,s[O2]'hp=d∧((d.toNat:Int) != 10)=false:=by
         rcases hend with h | ⟨t,h⟩
         ·rw [List.drop_eq_nil_iff] at h
          exact .inl ⟨decide_eq_false (by omega),by omega⟩
         ·obtain ⟨h2l,h2s,h2c⟩:=HL.out.byte O2 10 t h
          exact .inr ⟨h2s,decide_eq_true (by omega),h2l,by omega,10,h2c,rfl⟩
        clear hend
        rcases hk with ⟨k1,k2⟩ | ⟨h2s,k1,k0,k2,d,k3,k4⟩
        all_goals
         go_wp2_with fail
         go_quiet (fail)
         go_wp2_with fail
         go_roundw
         case rel =>
          refine ⟨n+m,?_,?_,?_,HOm.out.trans (Oth.nx ((Nx.refl _).dr _))⟩
          ·rw [show o+(n+m)=O2 by omega]
           exact HCm.out.drew _
          ·have:=HE.out.1;omega
          ·unfold Hid
           rw [show o+(n+m)=O2 by omega]
           exact HE.out.2
         case measure =>
          have h1:atL b (wr.drewN nq)=O2:=Lxb.at_ (HCm.out.drew nq)
          have:=HM0.out
          omega
    ·have hB3c:B3=true∨B3=false:=by cases B3 <;> simp
     have HNL:Hid (¬ (c=35∨(c=47∧r.head? = some 47))):=by
      rintro (h | h)
      ·subst h;rw [beq_eq_false_iff_ne] at b35;exact b35 rfl
      ·exact of_decide_eq_false hB2.out h
     rcases hB3c with rfl | rfl
     ·obtain ⟨rfl,hr42⟩:=of_decide_eq_true hB3.out
      have HSK:=Lib.hid (skip_note r hr42)
      go_wp2_with fail
      go_quiet (exact Calls.quiet_of_same (hst2 _))
      generalize hW0:World.drewN w1 _=w0
      have hC0:Lxb w0 b s O 0 0:=by rw [← hW0];exact HC1.out.drew _
      have hO0:Oth b w w0:=by rw [← hW0];exact HO1.out.trans (Oth.nx ((Nx.refl _).dr _))
      clear hW0 c0 c1 c2 c3 f0 f1 f2 f3
      obtain ⟨c0,c1,c2,c3,f0,f1,f2,f3⟩:=hC0.cells
      have HC0:=Lib.hid hC0
      have HO0:=Lib.hid hO0
      clear hC0 hO0
      go_wp2_with fail
      go_quiet (exact Calls.quiet_of_same (hst3 _))
      generalize hW:World.drewN w0 _=w2
      have hC2:Lxb w2 b s O 0 0:=by rw [← hW];exact HC0.out.drew _
      have hO2:Oth b w w2:=by rw [← hW];exact HO0.out.trans (Oth.nx ((Nx.refl _).dr _))
      clear hW c0 c1 c2 c3 f0 f1 f2 f3
      have HC2:=Lib.hid hC2
      have HO2:=Lib.hid hO2
      obtain ⟨c0,c1,c2,c3,f0,f1,f2,f3⟩:=hC2.cells
      clear hC2 hO2
      have HDR:Hid (r.drop 1=l.drop (O+2)):=by
       unfold Hid
       rw [← List.drop_drop,hl1.out];rfl
      obtain ⟨NT,hNT⟩:∃ NT,Hid (noteN (l.drop (O+2))=NT):=⟨_,rfl⟩
      have hN0:(O:Int)+2≤8010:=by omega
      have hOr2:O+2+0≤l.length:=by
       cases r with
       | nil=>simp at hr42
       | cons d r=>simp at hl1n;omega
      go_wp2_with fail
      go_loopw [3] (fun kv wx=>∃ m:Nat,kv = .int .i64 ((O+2+m:Nat):Int)∧O+2+m≤l.length∧Hid (NT=(noteN (l.drop (O+2+m))).map (· + m))∧Nx w2 wx) (fun kv _=>(20000 - intOf kv).toNat)
      case atStart=>exact ⟨0,by go_num,hOr2,by unfold Hid;rw [Nat.add_zero,hNT.out];cases NT <;> rfl,Nx.refl _⟩
      case round =>
       obtain ⟨m,rfl,hm,HNT,hnx⟩:=hrel
       obtain ⟨K,hK⟩:∃ K,O+2+m=K:=⟨_,rfl⟩
       rw [hK] at hm HNT
       have HCx:Hid (Lxb wr b s O 0 0):=HC2.out.below hnx
       have HOx:=Lib.hid (HO2.out.trans (Oth.nx hnx))
       obtain ⟨c0,c1,c2,c3,f0,f1,f2,f3⟩:=Lxb.cells HCx.out
       have hKI:((O+2+m:Nat):Int)=(K:Int):=by rw [hK]
       rw [hKI]
       have hst:=noteN_step (l.drop K)
       have hK8:(K:Int)≤8000:=by omega
       by_cases hlt:K<l.length
       ·have k1:decide ((K:Int)<(l.length:Int))=true:=decide_eq_true (by omega)
        obtain ⟨B,hB⟩:∃ B,Hid (decide ((l.drop K).head? = some 42∧((l.drop K).drop 1).head? = some 47)=B):=⟨_,rfl⟩
        go_wp2_with fail
        refine (starts_any s l K 42 47 _ HL.out (by omega) (by omega)).mono ?_;rintro e w' ⟨rfl,rfl⟩
        rw [hB.out]
        cases B
        ·have HNT2:Hid (NT=(noteN (l.drop (K+1))).map (· + (m+1))):=by
          unfold Hid
          rw [HNT.out,hst.2 (of_decide_eq_false hB.out),List.drop_drop,Option.map_map]
          congr 1
          funext x
          show x+1+m=x+(m+1)
          omega
         clear hst
         go_wp2_with fail
         go_roundw
         case rel =>
          refine ⟨m+1,by go_num,by omega,?_,hnx⟩
          rw [show O+2+(m+1)=K+1 by omega]
          exact HNT2
         case measure=>simp [intOf];omega
        ·have HNT2:Hid (NT=some m):=by
          unfold Hid
          rw [HNT.out,hst.1 (of_decide_eq_true hB.out)]
          simp
         have hSK:=HSK.out.2 m (by rw [HDR.out,hNT.out,HNT2.out])
         have HE:Hid (pn=(n+(m+4))+(skipS (l.drop (K+2))).1∧(skipS (l.drop (K+2))).2=pb∧K+2≤l.length):=by
          have h1:=HS.out
          rw [hSK] at h1
          have hd:(47 :: r).drop (m+4)=l.drop (K+2):=by rw [← hl1.out,List.drop_drop];congr 1;omega
          rw [hd] at h1
          have h2:=noteN_lt (l.drop (O+2)) m (by rw [hNT.out,HNT2.out])
          rw [List.length_drop] at h2
          exact ⟨by rw [h1.1];dsimp only;omega,h1.2,by omega⟩
         have k2:decide ((l.length:Int)≤(K:Int))=false:=decide_eq_false (by omega)
         have k3:¬ l.length≤K:=by omega
         clear hst hSK
         go_wp2_with fail
         have e:(K:Int)+2=((K+2:Nat):Int):=by omega
         go_roundw
         case rel =>
          rw [e]
          refine ⟨n+(m+4),?_,?_,?_,HOx.out.own⟩
          ·rw [show o+(n+(m+4))=K+2 by omega]
           exact HCx.out.put1 _
          ·have:=HE.out.2.2;omega
          ·unfold Hid
           rw [show o+(n+(m+4))=K+2 by omega]
           exact ⟨HE.out.1,HE.out.2.1⟩
         case measure =>
          rw [e,(HCx.out.put1 (K+2)).at_]
          omega
       ·have hKl:K=l.length:=by omega
        have HNT2:Hid (NT=none):=by
         unfold Hid
         rw [HNT.out,List.drop_eq_nil_iff.2 (by omega)]
         rfl
        have hSK:=HSK.out.1 (by rw [HDR.out,hNT.out,HNT2.out])
        have HE:Hid (pn=n∧pb=false):=by
         have h1:=HS.out
         rw [hSK] at h1
         exact ⟨h1.1,h1.2.symm⟩
        have k1:decide ((K:Int)<(l.length:Int))=false:=decide_eq_false (by omega)
        have k2:decide ((l.length:Int)≤(K:Int))=true:=decide_eq_true (by omega)
        have k3:¬ K<l.length:=by omega
        have k4:l.length≤K:=by omega
        clear hst hSK hlt
        go_wp2_with fail
        refine (lxfail_any b s O 0 0 2 O _ HCx.out).mono ?_;rintro e w' ⟨rfl,hCf,hOf⟩
        have HCf:=Lib.hid hCf
        have HOf:=Lib.hid hOf
        clear hCf hOf
        go_wp2_with fail
        obtain ⟨rfl,rfl⟩:=HE.out
        refine bodyPost_ret (results_none rfl _ _) rfl ?_
        exact ⟨rfl,fun h=>by simp at h,fun _=>by rw [hOn];exact HCf.out,HOx.out.trans HOf.out⟩
     ·have HSK:=Lib.hid (skip_none c r HWF.out HNL.out (of_decide_eq_false hB3.out))
      go_wp2_with fail
      go_quiet (exact Calls.quiet_of_same (hst2 _))
      generalize hW0:World.drewN w1 _=w0
      have hC0:Lxb w0 b s O 0 0:=by rw [← hW0];exact HC1.out.drew _
      have hO0:Oth b w w0:=by rw [← hW0];exact HO1.out.trans (Oth.nx ((Nx.refl _).dr _))
      clear hW0 c0 c1 c2 c3 f0 f1 f2 f3
      obtain ⟨c0,c1,c2,c3,f0,f1,f2,f3⟩:=hC0.cells
      have HC0:=Lib.hid hC0
      have HO0:=Lib.hid hO0
      clear hC0 hO0
      go_wp2_with fail
      go_quiet (exact Calls.quiet_of_same (hst3 _))
      go_wp2_with fail
      have HF:Hid (pn=n∧pb=true):=by
       have h1:=HS.out
       rw [HSK.out] at h1
       exact ⟨h1.1,h1.2.symm⟩
      obtain ⟨rfl,rfl⟩:=HF.out
      refine bodyPost_ret (results_none rfl _ _) rfl ?_
      exact ⟨rfl,fun _=>by rw [hOn];exact HC0.out.drew _,fun h=>by simp at h,HO0.out.trans (Oth.nx ((Nx.refl _).dr _))⟩
end Go.Proofs.YtpfecpcgdfbekaaGreatDoor
namespace Go.Proofs.YtpfecpcgdfbekaaGreatDoor
open Go.RowKit
def hasD:List UInt8→Bool
 | []=>false
 | c :: _=>isDig c
theorem hasD_iff (l:List UInt8):hasD l=decide (digN l≠0):=by
 cases l with
 | nil=>rfl
 | cons c r =>
  cases h:isDig c <;> simp [hasD,digN,spanN,h]
set_option maxRecDepth 100000 in
set_option maxHeartbeats 1600000 in
theorem has_any (b:Nat) (s:ByteArray) (l:List UInt8) (i e a n:Nat) (w:World) (hB:Lxb w b s i e a) (hl:Tx s l) (hi:(i:Int)≤100000) (hn:(n:Int)≤100000) (hs:(l.length:Int)≤100000) :
  Calls Tryz.prog 120 #[.pointer (some ⟨b,0,none⟩),.int .i64 (n:Int)] w fun e' w'=>e' = .returned (.bool (hasD (l.drop (i+n))))∧∃ m,w'=w.drewN m:=by
 have hz:(s.size:Int)=(l.length:Int):=by rw [hl.size]
 obtain ⟨c0,c1,c2,c3,f0,f1,f2,f3⟩:=Lxb.cells hB
 obtain ⟨B,hBB⟩:∃ B,Hid (hasD (l.drop (i+n))=B):=⟨_,rfl⟩
 rw [hBB.out]
 by_cases hlt:i+n<l.length
 ·obtain ⟨hp,e0⟩:=hl.idx (i+n) hlt
  obtain ⟨c,hc⟩:∃ c,l[i+n]=c:=⟨_,rfl⟩
  rw [hc] at e0
  have hd:Hid (isDig c=B):=by
   unfold Hid
   rw [← hBB.out,List.drop_eq_getElem_cons hlt,hc];rfl
  obtain ⟨K,hK⟩:∃ K,i+n=K:=⟨_,rfl⟩
  have hKI:(i:Int)+(n:Int)=(K:Int):=by omega
  have e1:∃ hp:K<s.size,s[K]'hp=c:=by subst hK;exact ⟨hp,e0⟩
  obtain ⟨hp1,e1⟩:=e1
  have g0:K<l.length:=by omega
  have g1:decide ((K:Int)<(l.length:Int))=true:=decide_eq_true (by omega)
  have g3:(K:Int)<(s.size:Int):=by omega
  clear e0 hp
  have hdg:=fun w=>refDigit_any c w
  rw [hd.out] at hdg
  clear hl hB hc hd hlt hK
  go_enter Tryz.func120,Tryz.ntmps120
  go_wp2_with fail
  go_quiet (exact Calls.quiet_of_same (hdg _))
  go_wp2_with fail
  go_ret
  exact ⟨rfl,_,rfl⟩
 ·have hb:B=false:=by
   rw [← hBB.out,List.drop_eq_nil_iff.2 (by omega)];rfl
  subst hb
  have g1:decide ((i:Int)+(n:Int)<(l.length:Int))=false:=decide_eq_false (by omega)
  have g2:¬ (i:Int)+(n:Int)<(l.length:Int):=by omega
  have g3:¬ i+n<l.length:=hlt
  clear hl hB
  go_enter Tryz.func120,Tryz.ntmps120
  go_wp2_with fail
  go_quiet (fail)
  go_wp2_with fail
  go_ret
  exact ⟨rfl,_,rfl⟩
theorem lxspan_at (p:UInt8→Bool) (l:List UInt8) (m:Nat) (hm:m≤spanN p l):(m<spanN p l→∃ d t,l.drop m=d :: t∧p d=true)∧(m=spanN p l→l.drop m=[]∨∃ d t,l.drop m=d :: t∧p d=false):=by
 constructor
 ·intro h
  obtain ⟨h1,h2⟩:=(spanN_lt p l m hm).1 h
  exact ⟨_,_,List.drop_eq_getElem_cons h1,h2⟩
 ·rintro rfl
  exact spanN_drop p l
set_option maxRecDepth 100000 in
set_option maxHeartbeats 3200000 in
theorem digits_any (b:Nat) (s:ByteArray) (l:List UInt8) (i e a:Nat) (w:World) (hB:Lxb w b s i e a) (hl:Tx s l) (hi:i≤l.length) (hs:(l.length:Int)≤8000) :
  Calls Tryz.prog 119 #[.pointer (some ⟨b,0,none⟩)] w fun e' w'=>e' = .returned (.bool (decide (0<digN (l.drop i))))∧Lxb w' b s (i+digN (l.drop i)) e a∧Oth b w w':=by
 have hz:(s.size:Int)=(l.length:Int):=by rw [hl.size]
 have HL:=Lib.hid hl
 have HB:=Lib.hid hB
 obtain ⟨c0,c1,c2,c3,f0,f1,f2,f3⟩:=Lxb.cells hB
 obtain ⟨N,hN⟩:∃ N,Hid (digN (l.drop i)=N):=⟨_,rfl⟩
 have hNl:i+N≤l.length:=by
  have:=digN_le (l.drop i)
  rw [hN.out,List.length_drop] at this;omega
 rw [hN.out]
 obtain ⟨B,hBB⟩:∃ B,Hid (decide (0<N)=B):=⟨_,rfl⟩
 rw [hBB.out]
 clear hl hB
 go_enter Tryz.func119,Tryz.ntmps119
 go_wp2_with fail
 clear c0 c1 c2 c3 f0 f1 f2 f3
 go_loopw [] (fun wx=>∃ m:Nat,Lxb wx b s (i+m) e a∧m≤N∧Oth b w wx) (fun wx=>10000 - atL b wx)
 case atStart=>exact ⟨0,HB.out,Nat.zero_le _,Oth.refl _ _⟩
 case round =>
  obtain ⟨m,hCm,hmN,hOm⟩:=hrel
  have hsp:=lxspan_at isDig (l.drop i) m (by rw [show spanN isDig (l.drop i)=N from hN.out];exact hmN)
  rw [show spanN isDig (l.drop i)=N from hN.out,List.drop_drop] at hsp
  obtain ⟨K,hK⟩:∃ K,i+m=K:=⟨_,rfl⟩
  rw [hK] at hCm hsp
  have hat:=Lxb.at_ hCm
  have HCm:=Lib.hid hCm
  have HOm:=Lib.hid hOm
  obtain ⟨c0,c1,c2,c3,f0,f1,f2,f3⟩:=Lxb.cells hCm
  clear hCm hOm
  by_cases hlt:m<N
  ·obtain ⟨d,t,hd,hdp⟩:=hsp.1 hlt
   obtain ⟨h2l,h2s,h2c⟩:=HL.out.byte K d t hd
   have k1:decide ((K:Int)<(l.length:Int))=true:=decide_eq_true (by omega)
   have k2:(K:Int)<(s.size:Int):=by omega
   have k4:(K:Int)≤8000:=by omega
   have hdg:=fun w=>refDigit_any d w
   rw [hdp] at hdg
   clear hsp hd
   go_wp2_with fail
   go_quiet (exact Calls.quiet_of_same (hdg _))
   generalize hW:World.drewN _ _=w3
   have HC3:Hid (Lxb w3 b s K e a):=by rw [← hW];exact HCm.out.drew _
   have HO3:Hid (Oth b w w3):=by rw [← hW];exact HOm.out.trans (Oth.nx ((Nx.refl _).dr _))
   clear hW c0 c1 c2 c3 f0 f1 f2 f3
   obtain ⟨c0,c1,c2,c3,f0,f1,f2,f3⟩:=Lxb.cells HC3.out
   go_wp2_with fail
   have ek:(K:Int)+1=((K+1:Nat):Int):=by omega
   go_roundw
   case rel =>
    rw [ek]
    refine ⟨m+1,?_,hlt,HO3.out.own⟩
    rw [show i+(m+1)=K+1 by omega]
    exact HC3.out.put1 _
   case measure =>
    rw [ek,(HC3.out.put1 (K+1)).at_,hat]
    omega
  ·obtain rfl:m=N:=by omega
   have hend:=hsp.2 rfl
   have hk:decide ((K:Int)<(l.length:Int))=false∧¬ K<l.length∨∃ (hp:K<s.size) (d:UInt8),decide ((K:Int)<(l.length:Int))=true∧K<l.length∧(K:Int)<(s.size:Int)∧s[K]'hp=d∧isDig d=false:=by
    rcases hend with h | ⟨d,t,h,hd⟩
    ·rw [List.drop_eq_nil_iff] at h
     exact .inl ⟨decide_eq_false (by omega),by omega⟩
    ·obtain ⟨h2l,h2s,h2c⟩:=HL.out.byte K d t h
     exact .inr ⟨h2s,d,decide_eq_true (by omega),h2l,by omega,h2c,hd⟩
   have k6:decide ((i:Int)<(K:Int))=B:=by rw [← hBB.out,Bool.eq_iff_iff,decide_eq_true_iff,decide_eq_true_iff];omega
   have k7:decide (i<K)=B:=by rw [← hBB.out,Bool.eq_iff_iff,decide_eq_true_iff,decide_eq_true_iff];omega
   clear hend hsp hlt
   rcases hk with ⟨k1,k2⟩ | ⟨h2s,d,k1,k0,k2,k3,hdp⟩
   ·go_wp2_with fail
    go_quiet (fail)
    go_wp2_with fail
    go_ret
    refine ⟨by first | rfl | simp [k7],by rw [hK];exact HCm.out.drew _,HOm.out.trans (Oth.nx ((Nx.refl _).dr _))⟩
   ·have hdg:=fun w=>refDigit_any d w
    rw [hdp] at hdg
    go_wp2_with fail
    go_quiet (exact Calls.quiet_of_same (hdg _))
    go_wp2_with fail
    go_ret
    refine ⟨by first | rfl | simp [k7],by rw [hK];exact HCm.out.drew _,HOm.out.trans (Oth.nx ((Nx.refl _).dr _))⟩
end Go.Proofs.YtpfecpcgdfbekaaGreatDoor
namespace Go.Proofs.YtpfecpcgdfbekaaGreatDoor
open Go.RowKit
set_option maxRecDepth 100000 in
set_option maxHeartbeats 6400000 in
theorem refTen10_any (s:ByteArray) (l:List UInt8) (w:World) (hl:Tx s l) (h0:l≠[]) (hd:∀ c ∈ l.drop (sgnN l),isDig c=true) (hs:(l.length:Int)≤100000) :
    Calls Tryz.prog 121 #[.string s] w fun e w'=>(∃ n,e = .returned (.tuple #[.int .i64 n,.int .i64 ((wholeS l).2:Nat)])∧((wholeS l).2=0→n=(wholeS l).1))∧w'=w:=by
  obtain ⟨c,r,rfl⟩:∃ c r,l=c :: r:=by cases l with
    | nil=>exact absurd rfl h0
    | cons c r=>exact ⟨c,r,rfl⟩
  obtain ⟨hp,t0,e0,e1,ht,e2,e3⟩:=hl.cons
  have HL:=Lib.hid hl
  obtain ⟨neg,hneg⟩:∃ neg,((c.toNat:Int) == 45)=neg:=⟨_,rfl⟩
  obtain ⟨pos,hpos⟩:∃ pos,((c.toNat:Int) == 43)=pos:=⟨_,rfl⟩
  have hsg:sgnN (c :: r)=if neg || pos then 1 else 0:=by
    unfold sgnN;dsimp only
    rw [← hneg,← hpos]
    by_cases h1:c.toNat=45
    · simp [h1]
    · by_cases h2:c.toNat=43
      · simp [h2]
      · rw [if_neg (by omega),if_neg]
        simp;omega
  obtain ⟨ds,hds⟩:∃ ds,(c :: r).drop (sgnN (c :: r))=ds:=⟨_,rfl⟩
  rw [hds] at hd
  have hdl:(ds.length:Int)≤100000:=by
    have:ds.length≤(c :: r).length:=by rw [← hds];simp
    omega
  obtain ⟨u,HU,hu⟩:∃ u:ByteArray,Hid (Tx u ds)∧((neg || pos)=true→u=t0)∧((neg || pos)=false→u=s):=by
    cases hb:(neg || pos)
    · rw [hb] at hsg
      rw [hsg] at hds
      refine ⟨s,?_,fun h=>by simp at h,fun _=>rfl⟩
      subst hds;exact hl
    · rw [hb] at hsg
      rw [hsg] at hds
      refine ⟨t0,?_,fun _=>rfl,fun h=>by simp at h⟩
      subst hds;exact ht
  obtain ⟨T,hT⟩:∃ T,Hid (natB 10 ds=T):=⟨_,rfl⟩
  have HX:Hid (wholeS (c :: r)=if 60<ds.length then (0,4) else if (if neg then 9223372036854775808 else 9223372036854775807)<T then (0,5) else ((if neg then -(T:Int) else (T:Int)),0)):=by
    have hn:negB (c :: r)=neg:=by
      unfold negB;dsimp only;rw [← hneg,Bool.eq_iff_iff];simp;omega
    unfold Hid wholeS;dsimp only;rw [hds,hT.out,hn]
  have HD:=Lib.hid hd
  have HMo:Hid (∀ n,natB 10 (ds.take n)≤T):=by
    intro n
    rw [← hT.out]
    have:=natB_mono 10 (by decide) (ds.take n) (ds.drop n)
    rwa [List.take_append_drop] at this
  obtain ⟨X,hX⟩:∃ X,Hid (wholeS (c :: r)=X):=⟨_,rfl⟩
  rw [hX.out] at HX ⊢
  obtain ⟨xv,xe⟩:=X
  dsimp only
  have hus:(u.size:Int)=(ds.length:Int):=by rw [HU.out.size]
  have HUe:=Lib.hid hu
  clear hl hd ht hds hsg h0 hu
  have hnp:neg=true∨neg=false∧pos=true∨neg=false∧pos=false:=by cases neg <;> cases pos <;> simp
  have b45:=hneg
  have b43:=hpos
  clear hneg hpos
  rcases hnp with rfl | ⟨rfl,rfl⟩ | ⟨rfl,rfl⟩
  all_goals
    first
      | (obtain rfl:u=t0:=HUe.out.1 rfl)
      | (obtain rfl:u=s:=HUe.out.2 rfl
         clear e1 e2 e3)
    clear HUe
    by_cases h60:60<ds.length
    · have g1:decide ((60:Int)<(ds.length:Int))=true:=decide_eq_true (by omega)
      have HX2:Hid ((xv,xe)=((0:Int),4)):=by unfold Hid;rw [HX.out,if_pos h60]
      go_enter Tryz.func121,Tryz.ntmps121
      go_wp2_with fail
      go_ret2
      have hx:=HX2.out
      simp only [Prod.mk.injEq] at hx
      obtain ⟨rfl,rfl⟩:=hx
      exact ⟨⟨0,rfl,fun h=>by simp at h⟩,rfl⟩
    · have g1:decide ((60:Int)<(ds.length:Int))=false:=decide_eq_false (by omega)
      go_enter Tryz.func121,Tryz.ntmps121
      go_wp2_with fail
      go_loopw [5,6] (fun v i wr=>∃ (n V:Nat),v = .int .u64 (V:Int)∧i = .int .i64 n∧n≤ds.length∧Hid (natB 10 (ds.take n)=V)∧(V:Int)≤9223372036854775808∧wr=w) (fun _ i _=>(100000 - intOf i).toNat)
      case atStart=>exact ⟨0,0,rfl,rfl,Nat.zero_le _,by unfold Hid;simp [natB],by omega,rfl⟩
      case round =>
        obtain ⟨n,V,rfl,rfl,hn,HV,hVL,rfl⟩:=hrel
        by_cases hlt:n<ds.length
        · obtain ⟨hp2,e4⟩:=HU.out.idx n hlt
          obtain ⟨d,hdd⟩:∃ d,ds[n]=d:=⟨_,rfl⟩
          rw [hdd] at e4
          have hdig:=(isDig_iff d).1 (HD.out d (by rw [← hdd];exact List.getElem_mem hlt))
          obtain ⟨D,hD⟩:∃ D:Nat,(d.toNat:Int) - 48=(D:Int):=⟨d.toNat - 48,by omega⟩
          have hDv:hexV d=D:=by unfold hexV;rw [if_neg (by omega),if_neg (by omega)];omega
          have j1:(48:Int)≤(d.toNat:Int):=by omega
          have j2:(d.toNat:Int)≤57:=by omega
          have hD9:(D:Int)≤9:=by omega
          obtain ⟨R,hR⟩:∃ R:Nat,(9223372036854775808:Int) - (D:Int)=(R:Int):=⟨9223372036854775808 - D,by omega⟩
          have hR2:(R:Int)≤9223372036854775808:=by omega
          obtain ⟨Q,hQ⟩:∃ Q:Nat,R / 10=Q:=⟨_,rfl⟩
          have hQ2:(Q:Int)≤9223372036854775808:=by omega
          have fQ:(R:Int) / 10=(Q:Int):=by omega
          obtain ⟨P,hP⟩:∃ P:Nat,V * 10=P:=⟨_,rfl⟩
          have fP:(V:Int) * 10=(P:Int):=by omega
          have hVQ:V≤Q↔P+D≤9223372036854775808:=by omega
          have hNX:natB 10 (ds.take (n+1))=P+D:=by rw [natB_take 10 ds n hlt,HV.out,hdd,hDv];omega
          have hT1:P+D≤T:=by rw [← hNX];exact HMo.out _
          have k1:decide ((n:Int)<(ds.length:Int))=true:=decide_eq_true (by omega)
          have HNX:=Lib.hid hNX
          have HVQ:=Lib.hid hVQ
          have HT1:=Lib.hid hT1
          clear hdd hdig hDv hQ hP hNX hVQ hT1
          by_cases hle:V≤Q
          · have g2:decide ((Q:Int)<(V:Int))=false:=decide_eq_false (by omega)
            have g3:¬ Q<V:=by omega
            have hPD:(P:Int)+(D:Int)≤9223372036854775808:=by have:=HVQ.out.1 hle;omega
            clear hle
            go_wp2_with fail
            go_roundw
            case rel=>exact ⟨n+1,P+D,by go_num,by go_num,hlt,HNX,by omega,by first | rfl | trivial⟩
            case measure=>simp [intOf];omega
          · have g2:decide ((Q:Int)<(V:Int))=true:=decide_eq_true (by omega)
            have g3:Q<V:=by omega
            have HR:Hid (9223372036854775808<T):=by unfold Hid;have:=HVQ.out;have:=HT1.out;omega
            clear hle
            go_wp2_with fail
            go_ret2
            have hx:=HX.out
            rw [if_neg h60,if_pos (by split <;> (have:=HR.out;omega))] at hx
            simp only [Prod.mk.injEq] at hx
            obtain ⟨rfl,rfl⟩:=hx
            exact ⟨⟨0,rfl,fun h=>by simp at h⟩,rfl⟩
        · have k1:decide ((n:Int)<(ds.length:Int))=false:=decide_eq_false (by omega)
          have HTV:Hid (T=V):=by unfold Hid;rw [← HV.out,List.take_of_length_le (by omega)];exact hT.out.symm
          have hx:=HX.out
          rw [if_neg h60,HTV.out] at hx
          have HX3:=Lib.hid hx
          obtain ⟨VI,hVI⟩:∃ VI:Int,(V:Int)=VI:=⟨_,rfl⟩
          have hV0:0≤VI:=by omega
          rw [hVI] at hVL ⊢
          have HVI:=Lib.hid hVI
          obtain ⟨Z,Y,X1,h1,h2,h3,h4⟩:∃ Z Y X1,IntKind.u64.wrap (VI - 1)=Z∧IntKind.i64.wrap Z=Y∧IntKind.i64.wrap (-Y)=X1∧IntKind.i64.wrap (X1 - 1) = -VI:=by
            refine ⟨_,_,_,rfl,rfl,rfl,?_⟩
            rw [IntKind.wrap_u64,IntKind.wrap_i64,IntKind.wrap_i64,IntKind.wrap_i64]
            omega
          clear hx h60 hVI
          first
            | (have HF:Hid (xv = -VI∧xe=0):=by
                have hx:=HX3.out
                have hv:=HVI.out
                rw [if_neg (by simp;omega)] at hx
                simp only [Prod.mk.injEq,if_true,hv] at hx
                exact hx
               go_wp2_with fail
               go_ret2
               obtain ⟨rfl,rfl⟩:=HF.out
               exact ⟨⟨_,rfl,fun _=>rfl⟩,rfl⟩)
            | (by_cases hbig:(9223372036854775807:Int)<VI
               · have q1:decide ((9223372036854775807:Int)<VI)=true:=decide_eq_true hbig
                 have HF:Hid (xv=0∧xe=5):=by
                   have hx:=HX3.out
                   have hv:=HVI.out
                   rw [if_pos (by simp;omega)] at hx
                   simp only [Prod.mk.injEq] at hx
                   exact hx
                 go_wp2_with fail
                 go_ret2
                 obtain ⟨rfl,rfl⟩:=HF.out
                 exact ⟨⟨0,rfl,fun h=>by simp at h⟩,rfl⟩
               · have q1:decide ((9223372036854775807:Int)<VI)=false:=decide_eq_false hbig
                 have hV2:VI≤9223372036854775807:=by omega
                 have HF:Hid (xv=VI∧xe=0):=by
                   have hx:=HX3.out
                   have hv:=HVI.out
                   rw [if_neg (by simp;omega)] at hx
                   simp only [Prod.mk.injEq] at hx
                   exact ⟨by rw [← hv];simpa using hx.1,hx.2⟩
                 clear hbig h1 h2 h3 h4
                 go_wp2_with fail
                 go_ret2
                 obtain ⟨rfl,rfl⟩:=HF.out
                 exact ⟨⟨_,rfl,fun _=>rfl⟩,rfl⟩)
end Go.Proofs.YtpfecpcgdfbekaaGreatDoor
namespace Go.Proofs.YtpfecpcgdfbekaaGreatDoor
open Go.RowKit
end Go.Proofs.YtpfecpcgdfbekaaGreatDoor
namespace Go.Proofs.YtpfecpcgdfbekaaGreatDoor
open Go.RowKit
end Go.Proofs.YtpfecpcgdfbekaaGreatDoor
namespace Go.Proofs.YtpfecpcgdfbekaaGreatDoor
open Go.RowKit
theorem spanN_cut (p:UInt8→Bool) (l:List UInt8) (n:Nat):spanN p (l.take n)=min (spanN p l) n:=by
 induction l generalizing n with
 | nil=>simp [spanN]
 | cons c l ih =>
  cases n with
  | zero=>simp [spanN]
  | succ n =>
   rw [List.take_succ_cons]
   unfold spanN
   by_cases h:p c=true
   ·rw [if_pos h,if_pos h,ih];omega
   ·rw [if_neg h,if_neg h];omega
theorem cells5 {w:World} {B g:Nat} {T:TypeId} {a0 a1 a2 a3 a4:Value} (h:Blk w B g #[a0,a1,a2,a3,a4] T) :
  w.cell? ⟨g,0,none⟩=some a0∧w.cell? ⟨g,1,none⟩=some a1∧w.cell? ⟨g,2,none⟩=some a2∧w.cell? ⟨g,3,none⟩=some a3∧w.cell? ⟨g,4,none⟩=some a4 ∧
  w.frozen? ⟨g,0,none⟩=false∧w.frozen? ⟨g,1,none⟩=false∧w.frozen? ⟨g,2,none⟩=false∧w.frozen? ⟨g,3,none⟩=false∧w.frozen? ⟨g,4,none⟩=false :=
 ⟨h.cell 0,h.cell 1,h.cell 2,h.cell 3,h.cell 4,h.free 0,h.free 1,h.free 2,h.free 3,h.free 4⟩
end Go.Proofs.YtpfecpcgdfbekaaGreatDoor
