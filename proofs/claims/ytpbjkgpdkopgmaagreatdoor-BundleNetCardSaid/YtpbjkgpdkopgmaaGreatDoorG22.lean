/- The contracts of elements, at each type. -/
import Derived.Test.YtpbjkgpdkopgmaaGreatDoorG21
set_option linter.unusedVariables false
set_option linter.unusedSimpArgs false
set_option linter.unnecessarySimpa false
namespace Go.Proofs.YtpbjkgpdkopgmaaGreatDoor
open Go.RowKit
theorem sep_e (ws:List TokV) (s:PSt):(sepP ws s).e=s.e∧s.i≤(sepP ws s).i:=by
 unfold sepP takeP nextP
 repeat' split
 all_goals (refine ⟨?_,?_⟩ <;> simp)
theorem fuel_step {β:Type} {ws:List TokV} {p:PSt→Bool} {rd:PSt→β×PSt} (hp:Prog ws p rd) (most:Nat) (acc:List β) {s:PSt} {n:Nat} (hl:s.i<ws.length) (h:p s=true) (hf:s.e=0→ws.length - s.i<n+1) :
  (sepP ws (addP most rd acc s).2).e=0→ws.length - (sepP ws (addP most rd acc s).2).i<n:=by
 intro he
 obtain ⟨h1,h2⟩:=sep_e ws (addP most rd acc s).2
 have h3:=hp s hl h
 have h4:=hf h3.1
 rw [h1] at he
 unfold addP at he h2 ⊢
 split at he
 ·exact absurd he (fail_ne 4 (by decide) s)
 ·rename_i h5
  rw [if_neg h5] at h2 ⊢
  dsimp only at he h2 ⊢
  have:=h3.2.resolve_left (by simpa using he)
  omega
set_option maxRecDepth 100000 in
set_option maxHeartbeats 3200000 in
theorem elsC_any (dp:Nat) (g2 g3:Nat) {w:World} {b c:Nat} {A:Option Addr} {ws:List TokV} {s:PSt} {E:World→Prop} (hE:Stays b E) (p:PSt→Bool) (rd:PSt→Con×PSt)
  (hat:AtC b c A ws E 147 #[.pointer (some ⟨b,0,none⟩)] p) (hrd:ReadC vluC (RC (dp+1)) b c A ws E 194 #[.pointer (some ⟨g2,0,none⟩),.pointer (some ⟨g3,0,none⟩)] p rd) (hpg:Prog ws p rd) (h0:PC w b A c ws s) (hE0:E w) (most:Nat) (hm2:most≤100)
  (l:List Con) (s':PSt) (hr:elemsP ws p most rd (ws.length+1) [] s=(l,s')) :
  Calls Tryz.prog 195 #[.pointer (some ⟨b,0,none⟩),.func (.func 147) #[.pointer (some ⟨b,0,none⟩)] #[],.int .i64 (most:Int),.func (.func 194) #[] #[.pointer (some ⟨g2,0,none⟩),.pointer (some ⟨g3,0,none⟩)]] w fun e w'=>∃ v',e = .returned v'∧LC (dp+1) w' (Fm w.heap.size) v' l∧PC w' b A c ws s'∧Oth b w w':=by
 have H:=Lib.hid h0
 have HE:=Lib.hid hE
 have HE0:=Lib.hid hE0
 have HAT:=Lib.hid hat
 have HRD:=Lib.hid hrd
 have HPG:=Lib.hid hpg
 have HR:=Lib.hid hr
 have hb:=h0.bw
 have hfew:=h0.fin.few
 clear h0 hE hE0 hat hrd hpg hr
 go_enter Tryz.func195,Tryz.ntmps195
 go_wp2_with fail
 go_loopw [8] (fun lv wr=>∃ (n:Nat) (acc:List Con) (s1:PSt),LC (dp+1) wr (Fm w.heap.size) lv acc∧PC wr b A c ws s1∧Hid (elemsP ws p most rd n acc s1=(l,s'))∧Hid (s1.e=0→ws.length - s1.i<n)∧acc.length≤most∧Oth b w wr) (fun _ wr=>leftP b wr)
 case atStart=>exact ⟨ws.length+1,[],s,RepL.nil_,H.out,HR.out,(fun _=>by have:=H.out.lt;omega),Nat.zero_le _,Oth.refl _ _⟩
 case round =>
  obtain ⟨n,acc,s1,hl,hpc,HS,HF,hlen,hO⟩:=hrel
  obtain ⟨Q,hQ⟩:∃ Q,Hid (p s1=Q):=⟨_,rfl⟩
  have HL:=Lib.hid hl
  have HPC:=Lib.hid hpc
  have HO:=Lib.hid hO
  have HLEN:=Lib.hid hlen
  have hleft:=hpc.left
  have HLEFT:=Lib.hid hleft
  clear hl hpc hO hlen hleft
  go_wp2_with fail
  refine (HAT.out wr s1 HPC.out (HE.out _ _ HE0.out HO.out) Q hQ.out).mono ?_;rintro e w1 ⟨rfl,hn1⟩
  have HN1:=Lib.hid hn1
  clear hn1
  cases Q
  ·have hx:=HS.out
   rw [elems_done ws p most rd n acc s1 hQ.out] at hx
   simp only [Prod.mk.injEq] at hx
   obtain ⟨rfl,rfl⟩:=hx
   go_wp2_with fail
   go_ret
   exact ⟨_,rfl,RepL.nx (RC.lasts _) HL.out HN1.out,HPC.out.nx HN1.out,HO.out.trans (Oth.nx HN1.out)⟩
  ·have he1:=(HPG.out s1 HPC.out.lt hQ.out).1
   obtain ⟨n,rfl⟩:∃ k,n=k+1:=⟨n - 1,by have:=HF.out he1;omega⟩
   have HS2:Hid (elemsP ws p most rd n (addP most rd acc s1).1 (sepP ws (addP most rd acc s1).2)=(l,s')):=by unfold Hid;rw [← elems_more ws p most rd n acc s1 hQ.out];exact HS.out
   have HF2:=Lib.hid (fuel_step HPG.out most acc (n:=n) HPC.out.lt hQ.out HF.out)
   have HA:=Lib.hid (left_add HPG.out most acc HPC.out.lt hfew hQ.out)
   have HLEN2:=Lib.hid (add_len most rd acc s1 HLEN.out)
   obtain ⟨⟨l1,s2⟩,h12⟩:∃ r,Hid (addP most rd acc s1=r):=⟨_,rfl⟩
   rw [h12.out] at HS2 HF2 HA HLEN2
   have HO1:=Lib.hid (HO.out.trans (Oth.nx HN1.out))
   clear he1
   go_wp2_with fail
   refine (addC_any _ _ _ p rd HRD.out (HPC.out.nx HN1.out) (HE.out _ _ HE0.out HO1.out) hQ.out w.heap.size most _ acc (RepL.nx (RC.lasts _) HL.out HN1.out) HO1.out.size hb HLEN.out hm2 l1 s2 h12.out).mono ?_;rintro e w2 ⟨v2,rfl,hl2,hp2,hf2⟩
   have HO2:=Lib.hid (hf2.toOth HO1.out (fun k e=>(HL.out.own_lt k e).1) (Nat.le_refl _))
   have HL2:=Lib.hid hl2
   have HP2:=Lib.hid hp2
   clear hl2 hp2 hf2
   obtain ⟨B1,hB1⟩:∃ B,Hid (isP ws [44] s2=B):=⟨_,rfl⟩
   obtain ⟨B2,hB2⟩:∃ B,Hid (isP ws [59] s2=B):=⟨_,rfl⟩
   go_wp2_with fail
   refine (take_any' HP2.out _ [44] (Tx.of _) B1 hB1.out).mono ?_;rintro e w3 ⟨rfl,hp3,ho3⟩
   have HP3:=Lib.hid hp3
   have HO3:=Lib.hid (HO2.out.trans ho3)
   have HL3:=Lib.hid (RepL.oth (RC.lasts _) HL2.out ho3 hb)
   clear hp3 ho3
   cases B1
   ·have hsep:sepP ws s2=(if B2 then nextP s2 else s2):=by unfold sepP takeP;rw [hB1.out,hB2.out];simp
    have HP4:Hid (PC w3 b A c ws s2):=HP3.out
    have HSEP:=Lib.hid hsep
    clear hsep
    go_wp2_with fail
    refine (take_any' HP4.out _ [59] (Tx.of _) B2 hB2.out).mono ?_;rintro e w4 ⟨rfl,hp4,ho4⟩
    rw [← HSEP.out] at hp4
    have HL4:=Lib.hid (RepL.oth (RC.lasts _) HL3.out ho4 hb)
    have HO4:=Lib.hid (HO3.out.trans ho4)
    have HP5:=Lib.hid hp4
    clear hp4 ho4
    go_wp2_with fail
    go_roundw
    case rel=>exact ⟨n,l1,_,HL4.out,HP5.out,HS2.out,HF2.out,HLEN2.out,HO4.out⟩
    case measure =>
     rw [HP5.out.left,HLEFT.out]
     have:=left_sep ws s2
     have:=HA.out
     omega
   ·have hsep:sepP ws s2=nextP s2:=by unfold sepP;rw [hB1.out];simp
    have HP5:Hid (PC w3 b A c ws (sepP ws s2)):=by unfold Hid;rw [hsep];exact HP3.out
    clear hsep
    go_wp2_with fail
    go_roundw
    case rel=>exact ⟨n,l1,_,HL3.out,HP5.out,HS2.out,HF2.out,HLEN2.out,HO3.out⟩
    case measure =>
     rw [HP5.out.left,HLEFT.out]
     have:=left_sep ws s2
     have:=HA.out
     omega
set_option maxRecDepth 100000 in
set_option maxHeartbeats 3200000 in
theorem elsP_any (dp:Nat) (g5 g2:Nat) {w:World} {b c:Nat} {A:Option Addr} {ws:List TokV} {s:PSt} {E:World→Prop} (hE:Stays b E) (p:PSt→Bool) (rd:PSt→(Con×Con)×PSt)
  (hat:AtC b c A ws E 147 #[.pointer (some ⟨b,0,none⟩)] p) (hrd:ReadC vluP (RPr (dp+1)) b c A ws E 196 #[.pointer (some ⟨g5,0,none⟩),.pointer (some ⟨g2,0,none⟩)] p rd) (hpg:Prog ws p rd) (h0:PC w b A c ws s) (hE0:E w) (most:Nat) (hm2:most≤100)
  (l:List (Con×Con)) (s':PSt) (hr:elemsP ws p most rd (ws.length+1) [] s=(l,s')) :
  Calls Tryz.prog 197 #[.pointer (some ⟨b,0,none⟩),.func (.func 147) #[.pointer (some ⟨b,0,none⟩)] #[],.int .i64 (most:Int),.func (.func 196) #[] #[.pointer (some ⟨g5,0,none⟩),.pointer (some ⟨g2,0,none⟩)]] w fun e w'=>∃ v',e = .returned v'∧LP (dp+1) w' (Fm w.heap.size) v' l∧PC w' b A c ws s'∧Oth b w w':=by
 have H:=Lib.hid h0
 have HE:=Lib.hid hE
 have HE0:=Lib.hid hE0
 have HAT:=Lib.hid hat
 have HRD:=Lib.hid hrd
 have HPG:=Lib.hid hpg
 have HR:=Lib.hid hr
 have hb:=h0.bw
 have hfew:=h0.fin.few
 clear h0 hE hE0 hat hrd hpg hr
 go_enter Tryz.func197,Tryz.ntmps197
 go_wp2_with fail
 go_loopw [8] (fun lv wr=>∃ (n:Nat) (acc:List (Con×Con)) (s1:PSt),LP (dp+1) wr (Fm w.heap.size) lv acc∧PC wr b A c ws s1∧Hid (elemsP ws p most rd n acc s1=(l,s'))∧Hid (s1.e=0→ws.length - s1.i<n)∧acc.length≤most∧Oth b w wr) (fun _ wr=>leftP b wr)
 case atStart=>exact ⟨ws.length+1,[],s,RepL.nil_,H.out,HR.out,(fun _=>by have:=H.out.lt;omega),Nat.zero_le _,Oth.refl _ _⟩
 case round =>
  obtain ⟨n,acc,s1,hl,hpc,HS,HF,hlen,hO⟩:=hrel
  obtain ⟨Q,hQ⟩:∃ Q,Hid (p s1=Q):=⟨_,rfl⟩
  have HL:=Lib.hid hl
  have HPC:=Lib.hid hpc
  have HO:=Lib.hid hO
  have HLEN:=Lib.hid hlen
  have hleft:=hpc.left
  have HLEFT:=Lib.hid hleft
  clear hl hpc hO hlen hleft
  go_wp2_with fail
  refine (HAT.out wr s1 HPC.out (HE.out _ _ HE0.out HO.out) Q hQ.out).mono ?_;rintro e w1 ⟨rfl,hn1⟩
  have HN1:=Lib.hid hn1
  clear hn1
  cases Q
  ·have hx:=HS.out
   rw [elems_done ws p most rd n acc s1 hQ.out] at hx
   simp only [Prod.mk.injEq] at hx
   obtain ⟨rfl,rfl⟩:=hx
   go_wp2_with fail
   go_ret
   exact ⟨_,rfl,RepL.nx (RPr.lasts _) HL.out HN1.out,HPC.out.nx HN1.out,HO.out.trans (Oth.nx HN1.out)⟩
  ·have he1:=(HPG.out s1 HPC.out.lt hQ.out).1
   obtain ⟨n,rfl⟩:∃ k,n=k+1:=⟨n - 1,by have:=HF.out he1;omega⟩
   have HS2:Hid (elemsP ws p most rd n (addP most rd acc s1).1 (sepP ws (addP most rd acc s1).2)=(l,s')):=by unfold Hid;rw [← elems_more ws p most rd n acc s1 hQ.out];exact HS.out
   have HF2:=Lib.hid (fuel_step HPG.out most acc (n:=n) HPC.out.lt hQ.out HF.out)
   have HA:=Lib.hid (left_add HPG.out most acc HPC.out.lt hfew hQ.out)
   have HLEN2:=Lib.hid (add_len most rd acc s1 HLEN.out)
   obtain ⟨⟨l1,s2⟩,h12⟩:∃ r,Hid (addP most rd acc s1=r):=⟨_,rfl⟩
   rw [h12.out] at HS2 HF2 HA HLEN2
   have HO1:=Lib.hid (HO.out.trans (Oth.nx HN1.out))
   clear he1
   go_wp2_with fail
   refine (addP_any _ _ _ p rd HRD.out (HPC.out.nx HN1.out) (HE.out _ _ HE0.out HO1.out) hQ.out w.heap.size most _ acc (RepL.nx (RPr.lasts _) HL.out HN1.out) HO1.out.size hb HLEN.out hm2 l1 s2 h12.out).mono ?_;rintro e w2 ⟨v2,rfl,hl2,hp2,hf2⟩
   have HO2:=Lib.hid (hf2.toOth HO1.out (fun k e=>(HL.out.own_lt k e).1) (Nat.le_refl _))
   have HL2:=Lib.hid hl2
   have HP2:=Lib.hid hp2
   clear hl2 hp2 hf2
   obtain ⟨B1,hB1⟩:∃ B,Hid (isP ws [44] s2=B):=⟨_,rfl⟩
   obtain ⟨B2,hB2⟩:∃ B,Hid (isP ws [59] s2=B):=⟨_,rfl⟩
   go_wp2_with fail
   refine (take_any' HP2.out _ [44] (Tx.of _) B1 hB1.out).mono ?_;rintro e w3 ⟨rfl,hp3,ho3⟩
   have HP3:=Lib.hid hp3
   have HO3:=Lib.hid (HO2.out.trans ho3)
   have HL3:=Lib.hid (RepL.oth (RPr.lasts _) HL2.out ho3 hb)
   clear hp3 ho3
   cases B1
   ·have hsep:sepP ws s2=(if B2 then nextP s2 else s2):=by unfold sepP takeP;rw [hB1.out,hB2.out];simp
    have HP4:Hid (PC w3 b A c ws s2):=HP3.out
    have HSEP:=Lib.hid hsep
    clear hsep
    go_wp2_with fail
    refine (take_any' HP4.out _ [59] (Tx.of _) B2 hB2.out).mono ?_;rintro e w4 ⟨rfl,hp4,ho4⟩
    rw [← HSEP.out] at hp4
    have HL4:=Lib.hid (RepL.oth (RPr.lasts _) HL3.out ho4 hb)
    have HO4:=Lib.hid (HO3.out.trans ho4)
    have HP5:=Lib.hid hp4
    clear hp4 ho4
    go_wp2_with fail
    go_roundw
    case rel=>exact ⟨n,l1,_,HL4.out,HP5.out,HS2.out,HF2.out,HLEN2.out,HO4.out⟩
    case measure =>
     rw [HP5.out.left,HLEFT.out]
     have:=left_sep ws s2
     have:=HA.out
     omega
   ·have hsep:sepP ws s2=nextP s2:=by unfold sepP;rw [hB1.out];simp
    have HP5:Hid (PC w3 b A c ws (sepP ws s2)):=by unfold Hid;rw [hsep];exact HP3.out
    clear hsep
    go_wp2_with fail
    go_roundw
    case rel=>exact ⟨n,l1,_,HL3.out,HP5.out,HS2.out,HF2.out,HLEN2.out,HO3.out⟩
    case measure =>
     rw [HP5.out.left,HLEFT.out]
     have:=left_sep ws s2
     have:=HA.out
     omega
set_option maxRecDepth 100000 in
set_option maxHeartbeats 3200000 in
theorem elsF_any {w:World} {b c:Nat} {A:Option Addr} {ws:List TokV} {s:PSt} {E:World→Prop} (hE:Stays b E) (p:PSt→Bool) (rd:PSt→Fld×PSt)
  (hat:AtC b c A ws E 151 #[.pointer (some ⟨b,0,none⟩)] p) (hrd:ReadC vluF RF b c A ws E 152 #[.pointer (some ⟨b,0,none⟩)] p rd) (hpg:Prog ws p rd) (h0:PC w b A c ws s) (hE0:E w) (most:Nat) (hm2:most≤100)
  (l:List Fld) (s':PSt) (hr:elemsP ws p most rd (ws.length+1) [] s=(l,s')) :
  Calls Tryz.prog 150 #[.pointer (some ⟨b,0,none⟩),.func (.func 151) #[.pointer (some ⟨b,0,none⟩)] #[],.int .i64 (most:Int),.func (.func 152) #[.pointer (some ⟨b,0,none⟩)] #[]] w fun e w'=>∃ v',e = .returned v'∧LF w' (Fm w.heap.size) v' l∧PC w' b A c ws s'∧Oth b w w':=by
 have H:=Lib.hid h0
 have HE:=Lib.hid hE
 have HE0:=Lib.hid hE0
 have HAT:=Lib.hid hat
 have HRD:=Lib.hid hrd
 have HPG:=Lib.hid hpg
 have HR:=Lib.hid hr
 have hb:=h0.bw
 have hfew:=h0.fin.few
 clear h0 hE hE0 hat hrd hpg hr
 go_enter Tryz.func150,Tryz.ntmps150
 go_wp2_with fail
 go_loopw [8] (fun lv wr=>∃ (n:Nat) (acc:List Fld) (s1:PSt),LF wr (Fm w.heap.size) lv acc∧PC wr b A c ws s1∧Hid (elemsP ws p most rd n acc s1=(l,s'))∧Hid (s1.e=0→ws.length - s1.i<n)∧acc.length≤most∧Oth b w wr) (fun _ wr=>leftP b wr)
 case atStart=>exact ⟨ws.length+1,[],s,RepL.nil_,H.out,HR.out,(fun _=>by have:=H.out.lt;omega),Nat.zero_le _,Oth.refl _ _⟩
 case round =>
  obtain ⟨n,acc,s1,hl,hpc,HS,HF,hlen,hO⟩:=hrel
  obtain ⟨Q,hQ⟩:∃ Q,Hid (p s1=Q):=⟨_,rfl⟩
  have HL:=Lib.hid hl
  have HPC:=Lib.hid hpc
  have HO:=Lib.hid hO
  have HLEN:=Lib.hid hlen
  have hleft:=hpc.left
  have HLEFT:=Lib.hid hleft
  clear hl hpc hO hlen hleft
  go_wp2_with fail
  refine (HAT.out wr s1 HPC.out (HE.out _ _ HE0.out HO.out) Q hQ.out).mono ?_;rintro e w1 ⟨rfl,hn1⟩
  have HN1:=Lib.hid hn1
  clear hn1
  cases Q
  ·have hx:=HS.out
   rw [elems_done ws p most rd n acc s1 hQ.out] at hx
   simp only [Prod.mk.injEq] at hx
   obtain ⟨rfl,rfl⟩:=hx
   go_wp2_with fail
   go_ret
   exact ⟨_,rfl,RepL.nx RF.lasts HL.out HN1.out,HPC.out.nx HN1.out,HO.out.trans (Oth.nx HN1.out)⟩
  ·have he1:=(HPG.out s1 HPC.out.lt hQ.out).1
   obtain ⟨n,rfl⟩:∃ k,n=k+1:=⟨n - 1,by have:=HF.out he1;omega⟩
   have HS2:Hid (elemsP ws p most rd n (addP most rd acc s1).1 (sepP ws (addP most rd acc s1).2)=(l,s')):=by unfold Hid;rw [← elems_more ws p most rd n acc s1 hQ.out];exact HS.out
   have HF2:=Lib.hid (fuel_step HPG.out most acc (n:=n) HPC.out.lt hQ.out HF.out)
   have HA:=Lib.hid (left_add HPG.out most acc HPC.out.lt hfew hQ.out)
   have HLEN2:=Lib.hid (add_len most rd acc s1 HLEN.out)
   obtain ⟨⟨l1,s2⟩,h12⟩:∃ r,Hid (addP most rd acc s1=r):=⟨_,rfl⟩
   rw [h12.out] at HS2 HF2 HA HLEN2
   have HO1:=Lib.hid (HO.out.trans (Oth.nx HN1.out))
   clear he1
   go_wp2_with fail
   refine (addF_any p rd HRD.out (HPC.out.nx HN1.out) (HE.out _ _ HE0.out HO1.out) hQ.out w.heap.size most _ acc (RepL.nx RF.lasts HL.out HN1.out) HO1.out.size hb HLEN.out hm2 l1 s2 h12.out).mono ?_;rintro e w2 ⟨v2,rfl,hl2,hp2,hf2⟩
   have HO2:=Lib.hid (hf2.toOth HO1.out (fun k e=>(HL.out.own_lt k e).1) (Nat.le_refl _))
   have HL2:=Lib.hid hl2
   have HP2:=Lib.hid hp2
   clear hl2 hp2 hf2
   obtain ⟨B1,hB1⟩:∃ B,Hid (isP ws [44] s2=B):=⟨_,rfl⟩
   obtain ⟨B2,hB2⟩:∃ B,Hid (isP ws [59] s2=B):=⟨_,rfl⟩
   go_wp2_with fail
   refine (take_any' HP2.out _ [44] (Tx.of _) B1 hB1.out).mono ?_;rintro e w3 ⟨rfl,hp3,ho3⟩
   have HP3:=Lib.hid hp3
   have HO3:=Lib.hid (HO2.out.trans ho3)
   have HL3:=Lib.hid (RepL.oth RF.lasts HL2.out ho3 hb)
   clear hp3 ho3
   cases B1
   ·have hsep:sepP ws s2=(if B2 then nextP s2 else s2):=by unfold sepP takeP;rw [hB1.out,hB2.out];simp
    have HP4:Hid (PC w3 b A c ws s2):=HP3.out
    have HSEP:=Lib.hid hsep
    clear hsep
    go_wp2_with fail
    refine (take_any' HP4.out _ [59] (Tx.of _) B2 hB2.out).mono ?_;rintro e w4 ⟨rfl,hp4,ho4⟩
    rw [← HSEP.out] at hp4
    have HL4:=Lib.hid (RepL.oth RF.lasts HL3.out ho4 hb)
    have HO4:=Lib.hid (HO3.out.trans ho4)
    have HP5:=Lib.hid hp4
    clear hp4 ho4
    go_wp2_with fail
    go_roundw
    case rel=>exact ⟨n,l1,_,HL4.out,HP5.out,HS2.out,HF2.out,HLEN2.out,HO4.out⟩
    case measure =>
     rw [HP5.out.left,HLEFT.out]
     have:=left_sep ws s2
     have:=HA.out
     omega
   ·have hsep:sepP ws s2=nextP s2:=by unfold sepP;rw [hB1.out];simp
    have HP5:Hid (PC w3 b A c ws (sepP ws s2)):=by unfold Hid;rw [hsep];exact HP3.out
    clear hsep
    go_wp2_with fail
    go_roundw
    case rel=>exact ⟨n,l1,_,HL3.out,HP5.out,HS2.out,HF2.out,HLEN2.out,HO3.out⟩
    case measure =>
     rw [HP5.out.left,HLEFT.out]
     have:=left_sep ws s2
     have:=HA.out
     omega
set_option maxRecDepth 100000 in
set_option maxHeartbeats 3200000 in
theorem elsM_any {w:World} {b c:Nat} {A:Option Addr} {ws:List TokV} {s:PSt} {E:World→Prop} (hE:Stays b E) (p:PSt→Bool) (rd:PSt→Mem×PSt)
  (hat:AtC b c A ws E 101 #[.pointer (some ⟨b,0,none⟩)] p) (hrd:ReadC vluM (REq (α:=Mem)) b c A ws E 102 #[.pointer (some ⟨b,0,none⟩)] p rd) (hpg:Prog ws p rd) (h0:PC w b A c ws s) (hE0:E w) (most:Nat) (hm2:most≤100)
  (l:List Mem) (s':PSt) (hr:elemsP ws p most rd (ws.length+1) [] s=(l,s')) :
  Calls Tryz.prog 100 #[.pointer (some ⟨b,0,none⟩),.func (.func 101) #[.pointer (some ⟨b,0,none⟩)] #[],.int .i64 (most:Int),.func (.func 102) #[.pointer (some ⟨b,0,none⟩)] #[]] w fun e w'=>∃ v',e = .returned v'∧LMm w' (Fm w.heap.size) v' l∧PC w' b A c ws s'∧Oth b w w':=by
 have H:=Lib.hid h0
 have HE:=Lib.hid hE
 have HE0:=Lib.hid hE0
 have HAT:=Lib.hid hat
 have HRD:=Lib.hid hrd
 have HPG:=Lib.hid hpg
 have HR:=Lib.hid hr
 have hb:=h0.bw
 have hfew:=h0.fin.few
 clear h0 hE hE0 hat hrd hpg hr
 go_enter Tryz.func100,Tryz.ntmps100
 go_wp2_with fail
 go_loopw [8] (fun lv wr=>∃ (n:Nat) (acc:List Mem) (s1:PSt),LMm wr (Fm w.heap.size) lv acc∧PC wr b A c ws s1∧Hid (elemsP ws p most rd n acc s1=(l,s'))∧Hid (s1.e=0→ws.length - s1.i<n)∧acc.length≤most∧Oth b w wr) (fun _ wr=>leftP b wr)
 case atStart=>exact ⟨ws.length+1,[],s,RepL.nil_,H.out,HR.out,(fun _=>by have:=H.out.lt;omega),Nat.zero_le _,Oth.refl _ _⟩
 case round =>
  obtain ⟨n,acc,s1,hl,hpc,HS,HF,hlen,hO⟩:=hrel
  obtain ⟨Q,hQ⟩:∃ Q,Hid (p s1=Q):=⟨_,rfl⟩
  have HL:=Lib.hid hl
  have HPC:=Lib.hid hpc
  have HO:=Lib.hid hO
  have HLEN:=Lib.hid hlen
  have hleft:=hpc.left
  have HLEFT:=Lib.hid hleft
  clear hl hpc hO hlen hleft
  go_wp2_with fail
  refine (HAT.out wr s1 HPC.out (HE.out _ _ HE0.out HO.out) Q hQ.out).mono ?_;rintro e w1 ⟨rfl,hn1⟩
  have HN1:=Lib.hid hn1
  clear hn1
  cases Q
  ·have hx:=HS.out
   rw [elems_done ws p most rd n acc s1 hQ.out] at hx
   simp only [Prod.mk.injEq] at hx
   obtain ⟨rfl,rfl⟩:=hx
   go_wp2_with fail
   go_ret
   exact ⟨_,rfl,RepL.nx REq.lasts HL.out HN1.out,HPC.out.nx HN1.out,HO.out.trans (Oth.nx HN1.out)⟩
  ·have he1:=(HPG.out s1 HPC.out.lt hQ.out).1
   obtain ⟨n,rfl⟩:∃ k,n=k+1:=⟨n - 1,by have:=HF.out he1;omega⟩
   have HS2:Hid (elemsP ws p most rd n (addP most rd acc s1).1 (sepP ws (addP most rd acc s1).2)=(l,s')):=by unfold Hid;rw [← elems_more ws p most rd n acc s1 hQ.out];exact HS.out
   have HF2:=Lib.hid (fuel_step HPG.out most acc (n:=n) HPC.out.lt hQ.out HF.out)
   have HA:=Lib.hid (left_add HPG.out most acc HPC.out.lt hfew hQ.out)
   have HLEN2:=Lib.hid (add_len most rd acc s1 HLEN.out)
   obtain ⟨⟨l1,s2⟩,h12⟩:∃ r,Hid (addP most rd acc s1=r):=⟨_,rfl⟩
   rw [h12.out] at HS2 HF2 HA HLEN2
   have HO1:=Lib.hid (HO.out.trans (Oth.nx HN1.out))
   clear he1
   go_wp2_with fail
   refine (addM_any p rd HRD.out (HPC.out.nx HN1.out) (HE.out _ _ HE0.out HO1.out) hQ.out w.heap.size most _ acc (RepL.nx REq.lasts HL.out HN1.out) HO1.out.size hb HLEN.out hm2 l1 s2 h12.out).mono ?_;rintro e w2 ⟨v2,rfl,hl2,hp2,hf2⟩
   have HO2:=Lib.hid (hf2.toOth HO1.out (fun k e=>(HL.out.own_lt k e).1) (Nat.le_refl _))
   have HL2:=Lib.hid hl2
   have HP2:=Lib.hid hp2
   clear hl2 hp2 hf2
   obtain ⟨B1,hB1⟩:∃ B,Hid (isP ws [44] s2=B):=⟨_,rfl⟩
   obtain ⟨B2,hB2⟩:∃ B,Hid (isP ws [59] s2=B):=⟨_,rfl⟩
   go_wp2_with fail
   refine (take_any' HP2.out _ [44] (Tx.of _) B1 hB1.out).mono ?_;rintro e w3 ⟨rfl,hp3,ho3⟩
   have HP3:=Lib.hid hp3
   have HO3:=Lib.hid (HO2.out.trans ho3)
   have HL3:=Lib.hid (RepL.oth REq.lasts HL2.out ho3 hb)
   clear hp3 ho3
   cases B1
   ·have hsep:sepP ws s2=(if B2 then nextP s2 else s2):=by unfold sepP takeP;rw [hB1.out,hB2.out];simp
    have HP4:Hid (PC w3 b A c ws s2):=HP3.out
    have HSEP:=Lib.hid hsep
    clear hsep
    go_wp2_with fail
    refine (take_any' HP4.out _ [59] (Tx.of _) B2 hB2.out).mono ?_;rintro e w4 ⟨rfl,hp4,ho4⟩
    rw [← HSEP.out] at hp4
    have HL4:=Lib.hid (RepL.oth REq.lasts HL3.out ho4 hb)
    have HO4:=Lib.hid (HO3.out.trans ho4)
    have HP5:=Lib.hid hp4
    clear hp4 ho4
    go_wp2_with fail
    go_roundw
    case rel=>exact ⟨n,l1,_,HL4.out,HP5.out,HS2.out,HF2.out,HLEN2.out,HO4.out⟩
    case measure =>
     rw [HP5.out.left,HLEFT.out]
     have:=left_sep ws s2
     have:=HA.out
     omega
   ·have hsep:sepP ws s2=nextP s2:=by unfold sepP;rw [hB1.out];simp
    have HP5:Hid (PC w3 b A c ws (sepP ws s2)):=by unfold Hid;rw [hsep];exact HP3.out
    clear hsep
    go_wp2_with fail
    go_roundw
    case rel=>exact ⟨n,l1,_,HL3.out,HP5.out,HS2.out,HF2.out,HLEN2.out,HO3.out⟩
    case measure =>
     rw [HP5.out.left,HLEFT.out]
     have:=left_sep ws s2
     have:=HA.out
     omega
set_option maxRecDepth 100000 in
set_option maxHeartbeats 3200000 in
theorem elsT_any {w:World} {b c:Nat} {A:Option Addr} {ws:List TokV} {s:PSt} {E:World→Prop} (hE:Stays b E) (p:PSt→Bool) (rd:PSt→Met×PSt)
  (hat:AtC b c A ws E 105 #[.pointer (some ⟨b,0,none⟩)] p) (hrd:ReadC vluT RM b c A ws E 106 #[.pointer (some ⟨b,0,none⟩)] p rd) (hpg:Prog ws p rd) (h0:PC w b A c ws s) (hE0:E w) (most:Nat) (hm2:most≤100)
  (l:List Met) (s':PSt) (hr:elemsP ws p most rd (ws.length+1) [] s=(l,s')) :
  Calls Tryz.prog 104 #[.pointer (some ⟨b,0,none⟩),.func (.func 105) #[.pointer (some ⟨b,0,none⟩)] #[],.int .i64 (most:Int),.func (.func 106) #[.pointer (some ⟨b,0,none⟩)] #[]] w fun e w'=>∃ v',e = .returned v'∧LM w' (Fm w.heap.size) v' l∧PC w' b A c ws s'∧Oth b w w':=by
 have H:=Lib.hid h0
 have HE:=Lib.hid hE
 have HE0:=Lib.hid hE0
 have HAT:=Lib.hid hat
 have HRD:=Lib.hid hrd
 have HPG:=Lib.hid hpg
 have HR:=Lib.hid hr
 have hb:=h0.bw
 have hfew:=h0.fin.few
 clear h0 hE hE0 hat hrd hpg hr
 go_enter Tryz.func104,Tryz.ntmps104
 go_wp2_with fail
 go_loopw [8] (fun lv wr=>∃ (n:Nat) (acc:List Met) (s1:PSt),LM wr (Fm w.heap.size) lv acc∧PC wr b A c ws s1∧Hid (elemsP ws p most rd n acc s1=(l,s'))∧Hid (s1.e=0→ws.length - s1.i<n)∧acc.length≤most∧Oth b w wr) (fun _ wr=>leftP b wr)
 case atStart=>exact ⟨ws.length+1,[],s,RepL.nil_,H.out,HR.out,(fun _=>by have:=H.out.lt;omega),Nat.zero_le _,Oth.refl _ _⟩
 case round =>
  obtain ⟨n,acc,s1,hl,hpc,HS,HF,hlen,hO⟩:=hrel
  obtain ⟨Q,hQ⟩:∃ Q,Hid (p s1=Q):=⟨_,rfl⟩
  have HL:=Lib.hid hl
  have HPC:=Lib.hid hpc
  have HO:=Lib.hid hO
  have HLEN:=Lib.hid hlen
  have hleft:=hpc.left
  have HLEFT:=Lib.hid hleft
  clear hl hpc hO hlen hleft
  go_wp2_with fail
  refine (HAT.out wr s1 HPC.out (HE.out _ _ HE0.out HO.out) Q hQ.out).mono ?_;rintro e w1 ⟨rfl,hn1⟩
  have HN1:=Lib.hid hn1
  clear hn1
  cases Q
  ·have hx:=HS.out
   rw [elems_done ws p most rd n acc s1 hQ.out] at hx
   simp only [Prod.mk.injEq] at hx
   obtain ⟨rfl,rfl⟩:=hx
   go_wp2_with fail
   go_ret
   exact ⟨_,rfl,RepL.nx RM.lasts HL.out HN1.out,HPC.out.nx HN1.out,HO.out.trans (Oth.nx HN1.out)⟩
  ·have he1:=(HPG.out s1 HPC.out.lt hQ.out).1
   obtain ⟨n,rfl⟩:∃ k,n=k+1:=⟨n - 1,by have:=HF.out he1;omega⟩
   have HS2:Hid (elemsP ws p most rd n (addP most rd acc s1).1 (sepP ws (addP most rd acc s1).2)=(l,s')):=by unfold Hid;rw [← elems_more ws p most rd n acc s1 hQ.out];exact HS.out
   have HF2:=Lib.hid (fuel_step HPG.out most acc (n:=n) HPC.out.lt hQ.out HF.out)
   have HA:=Lib.hid (left_add HPG.out most acc HPC.out.lt hfew hQ.out)
   have HLEN2:=Lib.hid (add_len most rd acc s1 HLEN.out)
   obtain ⟨⟨l1,s2⟩,h12⟩:∃ r,Hid (addP most rd acc s1=r):=⟨_,rfl⟩
   rw [h12.out] at HS2 HF2 HA HLEN2
   have HO1:=Lib.hid (HO.out.trans (Oth.nx HN1.out))
   clear he1
   go_wp2_with fail
   refine (addT_any p rd HRD.out (HPC.out.nx HN1.out) (HE.out _ _ HE0.out HO1.out) hQ.out w.heap.size most _ acc (RepL.nx RM.lasts HL.out HN1.out) HO1.out.size hb HLEN.out hm2 l1 s2 h12.out).mono ?_;rintro e w2 ⟨v2,rfl,hl2,hp2,hf2⟩
   have HO2:=Lib.hid (hf2.toOth HO1.out (fun k e=>(HL.out.own_lt k e).1) (Nat.le_refl _))
   have HL2:=Lib.hid hl2
   have HP2:=Lib.hid hp2
   clear hl2 hp2 hf2
   obtain ⟨B1,hB1⟩:∃ B,Hid (isP ws [44] s2=B):=⟨_,rfl⟩
   obtain ⟨B2,hB2⟩:∃ B,Hid (isP ws [59] s2=B):=⟨_,rfl⟩
   go_wp2_with fail
   refine (take_any' HP2.out _ [44] (Tx.of _) B1 hB1.out).mono ?_;rintro e w3 ⟨rfl,hp3,ho3⟩
   have HP3:=Lib.hid hp3
   have HO3:=Lib.hid (HO2.out.trans ho3)
   have HL3:=Lib.hid (RepL.oth RM.lasts HL2.out ho3 hb)
   clear hp3 ho3
   cases B1
   ·have hsep:sepP ws s2=(if B2 then nextP s2 else s2):=by unfold sepP takeP;rw [hB1.out,hB2.out];simp
    have HP4:Hid (PC w3 b A c ws s2):=HP3.out
    have HSEP:=Lib.hid hsep
    clear hsep
    go_wp2_with fail
    refine (take_any' HP4.out _ [59] (Tx.of _) B2 hB2.out).mono ?_;rintro e w4 ⟨rfl,hp4,ho4⟩
    rw [← HSEP.out] at hp4
    have HL4:=Lib.hid (RepL.oth RM.lasts HL3.out ho4 hb)
    have HO4:=Lib.hid (HO3.out.trans ho4)
    have HP5:=Lib.hid hp4
    clear hp4 ho4
    go_wp2_with fail
    go_roundw
    case rel=>exact ⟨n,l1,_,HL4.out,HP5.out,HS2.out,HF2.out,HLEN2.out,HO4.out⟩
    case measure =>
     rw [HP5.out.left,HLEFT.out]
     have:=left_sep ws s2
     have:=HA.out
     omega
   ·have hsep:sepP ws s2=nextP s2:=by unfold sepP;rw [hB1.out];simp
    have HP5:Hid (PC w3 b A c ws (sepP ws s2)):=by unfold Hid;rw [hsep];exact HP3.out
    clear hsep
    go_wp2_with fail
    go_roundw
    case rel=>exact ⟨n,l1,_,HL3.out,HP5.out,HS2.out,HF2.out,HLEN2.out,HO3.out⟩
    case measure =>
     rw [HP5.out.left,HLEFT.out]
     have:=left_sep ws s2
     have:=HA.out
     omega
set_option maxRecDepth 100000 in
set_option maxHeartbeats 3200000 in
theorem elsD_any {w:World} {b c:Nat} {A:Option Addr} {ws:List TokV} {s:PSt} {E:World→Prop} (hE:Stays b E) (p:PSt→Bool) (rd:PSt→Dfn×PSt)
  (hat:AtC b c A ws E 57 #[.pointer (some ⟨b,0,none⟩)] p) (hrd:ReadC vluD RD b c A ws E 58 #[.pointer (some ⟨b,0,none⟩)] p rd) (hpg:Prog ws p rd) (h0:PC w b A c ws s) (hE0:E w) (most:Nat) (hm2:most≤100)
  (l:List Dfn) (s':PSt) (hr:elemsP ws p most rd (ws.length+1) [] s=(l,s')) :
  Calls Tryz.prog 56 #[.pointer (some ⟨b,0,none⟩),.func (.func 57) #[.pointer (some ⟨b,0,none⟩)] #[],.int .i64 (most:Int),.func (.func 58) #[.pointer (some ⟨b,0,none⟩)] #[]] w fun e w'=>∃ v',e = .returned v'∧LD w' (Fm w.heap.size) v' l∧PC w' b A c ws s'∧Oth b w w':=by
 have H:=Lib.hid h0
 have HE:=Lib.hid hE
 have HE0:=Lib.hid hE0
 have HAT:=Lib.hid hat
 have HRD:=Lib.hid hrd
 have HPG:=Lib.hid hpg
 have HR:=Lib.hid hr
 have hb:=h0.bw
 have hfew:=h0.fin.few
 clear h0 hE hE0 hat hrd hpg hr
 go_enter Tryz.func56,Tryz.ntmps56
 go_wp2_with fail
 go_loopw [8] (fun lv wr=>∃ (n:Nat) (acc:List Dfn) (s1:PSt),LD wr (Fm w.heap.size) lv acc∧PC wr b A c ws s1∧Hid (elemsP ws p most rd n acc s1=(l,s'))∧Hid (s1.e=0→ws.length - s1.i<n)∧acc.length≤most∧Oth b w wr) (fun _ wr=>leftP b wr)
 case atStart=>exact ⟨ws.length+1,[],s,RepL.nil_,H.out,HR.out,(fun _=>by have:=H.out.lt;omega),Nat.zero_le _,Oth.refl _ _⟩
 case round =>
  obtain ⟨n,acc,s1,hl,hpc,HS,HF,hlen,hO⟩:=hrel
  obtain ⟨Q,hQ⟩:∃ Q,Hid (p s1=Q):=⟨_,rfl⟩
  have HL:=Lib.hid hl
  have HPC:=Lib.hid hpc
  have HO:=Lib.hid hO
  have HLEN:=Lib.hid hlen
  have hleft:=hpc.left
  have HLEFT:=Lib.hid hleft
  clear hl hpc hO hlen hleft
  go_wp2_with fail
  refine (HAT.out wr s1 HPC.out (HE.out _ _ HE0.out HO.out) Q hQ.out).mono ?_;rintro e w1 ⟨rfl,hn1⟩
  have HN1:=Lib.hid hn1
  clear hn1
  cases Q
  ·have hx:=HS.out
   rw [elems_done ws p most rd n acc s1 hQ.out] at hx
   simp only [Prod.mk.injEq] at hx
   obtain ⟨rfl,rfl⟩:=hx
   go_wp2_with fail
   go_ret
   exact ⟨_,rfl,RepL.nx RD.lasts HL.out HN1.out,HPC.out.nx HN1.out,HO.out.trans (Oth.nx HN1.out)⟩
  ·have he1:=(HPG.out s1 HPC.out.lt hQ.out).1
   obtain ⟨n,rfl⟩:∃ k,n=k+1:=⟨n - 1,by have:=HF.out he1;omega⟩
   have HS2:Hid (elemsP ws p most rd n (addP most rd acc s1).1 (sepP ws (addP most rd acc s1).2)=(l,s')):=by unfold Hid;rw [← elems_more ws p most rd n acc s1 hQ.out];exact HS.out
   have HF2:=Lib.hid (fuel_step HPG.out most acc (n:=n) HPC.out.lt hQ.out HF.out)
   have HA:=Lib.hid (left_add HPG.out most acc HPC.out.lt hfew hQ.out)
   have HLEN2:=Lib.hid (add_len most rd acc s1 HLEN.out)
   obtain ⟨⟨l1,s2⟩,h12⟩:∃ r,Hid (addP most rd acc s1=r):=⟨_,rfl⟩
   rw [h12.out] at HS2 HF2 HA HLEN2
   have HO1:=Lib.hid (HO.out.trans (Oth.nx HN1.out))
   clear he1
   go_wp2_with fail
   refine (addD_any p rd HRD.out (HPC.out.nx HN1.out) (HE.out _ _ HE0.out HO1.out) hQ.out w.heap.size most _ acc (RepL.nx RD.lasts HL.out HN1.out) HO1.out.size hb HLEN.out hm2 l1 s2 h12.out).mono ?_;rintro e w2 ⟨v2,rfl,hl2,hp2,hf2⟩
   have HO2:=Lib.hid (hf2.toOth HO1.out (fun k e=>(HL.out.own_lt k e).1) (Nat.le_refl _))
   have HL2:=Lib.hid hl2
   have HP2:=Lib.hid hp2
   clear hl2 hp2 hf2
   obtain ⟨B1,hB1⟩:∃ B,Hid (isP ws [44] s2=B):=⟨_,rfl⟩
   obtain ⟨B2,hB2⟩:∃ B,Hid (isP ws [59] s2=B):=⟨_,rfl⟩
   go_wp2_with fail
   refine (take_any' HP2.out _ [44] (Tx.of _) B1 hB1.out).mono ?_;rintro e w3 ⟨rfl,hp3,ho3⟩
   have HP3:=Lib.hid hp3
   have HO3:=Lib.hid (HO2.out.trans ho3)
   have HL3:=Lib.hid (RepL.oth RD.lasts HL2.out ho3 hb)
   clear hp3 ho3
   cases B1
   ·have hsep:sepP ws s2=(if B2 then nextP s2 else s2):=by unfold sepP takeP;rw [hB1.out,hB2.out];simp
    have HP4:Hid (PC w3 b A c ws s2):=HP3.out
    have HSEP:=Lib.hid hsep
    clear hsep
    go_wp2_with fail
    refine (take_any' HP4.out _ [59] (Tx.of _) B2 hB2.out).mono ?_;rintro e w4 ⟨rfl,hp4,ho4⟩
    rw [← HSEP.out] at hp4
    have HL4:=Lib.hid (RepL.oth RD.lasts HL3.out ho4 hb)
    have HO4:=Lib.hid (HO3.out.trans ho4)
    have HP5:=Lib.hid hp4
    clear hp4 ho4
    go_wp2_with fail
    go_roundw
    case rel=>exact ⟨n,l1,_,HL4.out,HP5.out,HS2.out,HF2.out,HLEN2.out,HO4.out⟩
    case measure =>
     rw [HP5.out.left,HLEFT.out]
     have:=left_sep ws s2
     have:=HA.out
     omega
   ·have hsep:sepP ws s2=nextP s2:=by unfold sepP;rw [hB1.out];simp
    have HP5:Hid (PC w3 b A c ws (sepP ws s2)):=by unfold Hid;rw [hsep];exact HP3.out
    clear hsep
    go_wp2_with fail
    go_roundw
    case rel=>exact ⟨n,l1,_,HL3.out,HP5.out,HS2.out,HF2.out,HLEN2.out,HO3.out⟩
    case measure =>
     rw [HP5.out.left,HLEFT.out]
     have:=left_sep ws s2
     have:=HA.out
     omega
end Go.Proofs.YtpbjkgpdkopgmaaGreatDoor
