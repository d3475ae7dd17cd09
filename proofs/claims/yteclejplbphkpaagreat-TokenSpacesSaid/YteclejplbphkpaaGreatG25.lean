/- The document's printer: constants. The document's printer: a field. The document's printer: fields. -/
import Derived.Test.YteclejplbphkpaaGreatG24
import Derived.Test.YteclejplbphkpaaGreatG17
import Derived.Test.YteclejplbphkpaaGreatG19
import Derived.Test.YteclejplbphkpaaGreatG01
import Derived.Deep.Light
set_option linter.unusedVariables false
set_option linter.unusedSimpArgs false
set_option linter.unnecessarySimpa false
namespace Go.Proofs.YteclejplbphkpaaGreat
open Go.RowKit
structure PrN (tn:Int→List UInt8) (sh:Nat→List UInt8):Prop where
 ten:∀ (v:Int) (w:World),-9223372036854775808≤v→v≤9223372036854775807→Calls Tryz.prog 15 #[.int .i64 v] w fun e w'=>e = .returned (.string ⟨(tn v).toArray⟩)∧Nx w w'
 sho:∀ (B:Nat) (w:World),B<18446744073709551616→Calls Tryz.prog 16 #[.int .u64 (B:Int)] w fun e w'=>e = .returned (.string ⟨(sh B).toArray⟩)∧Nx w w'
theorem RC.keep' {n:Nat} {P Q:Nat→Prop} {w w':World} {x:ConS} {c:Con} (h:RC n w P x c) (hk:∀ g,P g→g<w.heap.size→w'.heap[g]? = w.heap[g]?) (hq:∀ g,P g→g<w.heap.size→Q g):RC n w' Q x c:=RC.lasts n ⟨hk,hq⟩ h
def CoC (tn:Int→List UInt8) (sh:Nat→List UInt8) (n:Nat):Prop :=
 ∀ (w:World) (P:Nat→Prop) (x:ConS) (c:Con),RC n w P x c→okC n c→((constF tn sh n c).length:Int)≤1000000000 →
  Calls Tryz.prog 9 #[.agg (conA x)] w fun e w'=>e = .returned (.string ⟨(constF tn sh n c).toArray⟩)∧Nx w w'
set_option maxRecDepth 100000 in
set_option maxHeartbeats 6400000 in
theorem const_step {tn:Int→List UInt8} {sh:Nat→List UInt8} (hN:PrN tn sh) (n:Nat) (ih:CoC tn sh n):CoC tn sh (n+1):=by
 intro w P x c hr hok hlen
 obtain ⟨k,i,d,s,l⟩:=c
 obtain ⟨xk,xi,xd,xs,xl⟩:=x
 obtain ⟨rfl,rfl,rfl,rfl,ys,hsl,hall⟩:=hr
 obtain ⟨⟨hi1,hi2⟩,hd,hll,hoks⟩:=hok
 have hrep:RepL conA 5 44 (RC n) w P xl l:=⟨ys,hsl,hall⟩
 obtain ⟨A,ac,zs,rfl,hzl,hzc,hzm,hrd,hall2⟩:=hrep.sl conA_size
 obtain ⟨F,hF⟩:∃ F,Hid (constF tn sh (n+1) (.mk xk xi xd xs l)=F):=⟨_,rfl⟩
 rw [hF.out] at hlen ⊢
 have HRD:=Lib.hid hrd
 have HALL:=Lib.hid hall2
 have HOK:=Lib.hid hoks
 have HLEN:=Lib.hid hlen
 have HIH:=Lib.hid ih
 have HTEN:=Lib.hid hN.ten
 have HSHO:=Lib.hid hN.sho
 obtain ⟨g,hg⟩:∃ g,w.heap.size=g:=⟨_,rfl⟩
 have hB:=Blk.new w #[.int .i64 (xk:Int),.int .i64 xi,.int .u64 (xd:Int),.string ⟨xs.toArray⟩,.slice A l.length ac] 44
 rw [hg] at hB
 have hn0:Nx w (w.alloc (.cells #[.int .i64 (xk:Int),.int .i64 xi,.int .u64 (xd:Int),.string ⟨xs.toArray⟩,.slice A l.length ac] 44)):=nx0 _ _
 have HB:=Lib.hid hB
 have HN0:=Lib.hid hn0
 clear hrd hall2 hall hsl hrep hoks hlen ih hN hB hn0
 show Calls _ _ #[.agg #[.int .i64 (xk:Int),.int .i64 xi,.int .u64 (xd:Int),.string ⟨xs.toArray⟩,.slice A l.length ac]] _ _
 go_enter Tryz.func9,Tryz.ntmps9
 go_upto_region 1 with fail
 generalize World.alloc w _=W at *
 have c0:W.cell? ⟨g,0,none⟩=some (.int .i64 (xk:Int)):=HB.out.cell 0
 have c1:W.cell? ⟨g,1,none⟩=some (.int .i64 xi):=HB.out.cell 1
 have c2:W.cell? ⟨g,2,none⟩=some (.int .u64 (xd:Int)):=HB.out.cell 2
 have c3:W.cell? ⟨g,3,none⟩=some (.string ⟨xs.toArray⟩):=HB.out.cell 3
 have c4:W.cell? ⟨g,4,none⟩=some (.slice A l.length ac):=HB.out.cell 4
 clear hg
 by_cases h1:xk=1
 ·subst h1
  obtain rfl:F=tn xi:=hF.out.symm
  go_wp2_with fail
  refine (HTEN.out xi W hi1 hi2).mono ?_;rintro e w2 ⟨rfl,hn2⟩
  go_wp2_with fail
  go_ret
  exact ⟨rfl,HN0.out.trans hn2⟩
 have b1:((xk:Int) == 1)=false:=by rw [beq_eq_false_iff_ne];omega
 have b1':¬ (xk:Int)=1:=by omega
 by_cases h2:xk=2
 ·subst h2
  obtain rfl:F=sh xd:=hF.out.symm
  go_wp2_with fail
  refine (HSHO.out xd W hd).mono ?_;rintro e w2 ⟨rfl,hn2⟩
  go_wp2_with fail
  go_ret
  exact ⟨rfl,HN0.out.trans hn2⟩
 have b2:((xk:Int) == 2)=false:=by rw [beq_eq_false_iff_ne];omega
 have b2':¬ (xk:Int)=2:=by omega
 by_cases h3:xk=3
 ·subst h3
  have hF3:F=if xs.contains 34 then 39 :: (xs++[39]) else 34 :: (xs++[34]):=hF.out.symm
  have HF3:=Lib.hid hF3
  have hFl:F.length=xs.length+2:=by rw [hF3];split <;> simp
  obtain ⟨S,hS⟩:∃ S:ByteArray,(⟨xs.toArray⟩:ByteArray)=S:=⟨_,rfl⟩
  have HT:Hid (Tx S xs):=by rw [← hS];exact Tx.of xs
  simp only [hS] at c3 ⊢
  have hSz:S.size=xs.length:=HT.out.size
  have hSzn:S.size+2≤1000000000:=by have:=HLEN.out;omega
  have hxi:(xs.length:Int)≤1000000000:=by omega
  clear hF3 hS hFl
  go_wp2_with fail
  go_loopw [3] (fun iv wr=>∃ i:Nat,iv = .int .i64 (i:Int)∧i≤xs.length∧Hid ((xs.take i).contains 34=false)∧wr=W) (fun iv _=>(2000000000 - intOf iv).toNat)
  case atStart=>exact ⟨0,rfl,Nat.zero_le _,rfl,rfl⟩
  case round =>
   obtain ⟨i,rfl,hi,HA,rfl⟩:=hrel
   by_cases hlt:i<xs.length
   ·obtain ⟨hp,e0⟩:=HT.out.idx i hlt
    obtain ⟨c,hc⟩:∃ c,xs[i]=c:=⟨_,rfl⟩
    rw [hc] at e0
    have hcm:c ∈ xs:=hc ▸ List.getElem_mem hlt
    have g1:decide ((i:Int)<(S.size:Int))=true:=decide_eq_true (by omega)
    have htk:xs.take (i+1)=xs.take i++[c]:=by rw [← hc];exact (List.take_append_getElem hlt).symm
    have HTK:=Lib.hid htk
    clear htk hc
    by_cases hq:c.toNat=34
    ·have hc34:c=34:=UInt8.toNat.inj hq
     have HR:Hid (F=39 :: (xs++[39])):=by
      unfold Hid
      rw [HF3.out,if_pos]
      rw [List.contains_iff_mem];exact hc34 ▸ hcm
     have g2:((c.toNat:Int) == 34)=true:=by rw [beq_iff_eq];omega
     have HS1:Hid (((⟨#[39]⟩:ByteArray)++S)++⟨#[39]⟩=⟨F.toArray⟩):=by
      have h:=(((Tx.of [39]).cat HT.out).cat (Tx.of [39])).eq
      rw [HR.out]
      exact h
     clear hcm hc34
     go_wp2_with fail
     go_ret
     exact ⟨by first | rfl | (rw [HS1.out];rfl),HN0.out⟩
    ·have g2:((c.toNat:Int) == 34)=false:=by rw [beq_eq_false_iff_ne];omega
     have HQ:=Lib.hid hq
     clear hq hcm
     go_wp2_with fail
     go_roundw
     case rel =>
      refine ⟨i+1,by go_num,hlt,?_,by trivial⟩
      unfold Hid
      rw [HTK.out,Bool.eq_false_iff]
      intro h
      rcases List.mem_append.1 (List.contains_iff_mem.1 h) with h | h
      ·exact absurd (List.contains_iff_mem.2 h) (by rw [HA.out];simp)
      ·exact HQ.out (by rw [← List.mem_singleton.1 h];rfl)
     case measure=>simp [intOf];omega
   ·obtain rfl:i=xs.length:=by omega
    have g1:decide ((xs.length:Int)<(S.size:Int))=false:=decide_eq_false (by omega)
    have HR:Hid (F=34 :: (xs++[34])):=by
     unfold Hid
     rw [HF3.out,if_neg]
     have:=HA.out
     rw [List.take_length] at this
     rw [this];simp
    have HS1:Hid (((⟨#[34]⟩:ByteArray)++S)++⟨#[34]⟩=⟨F.toArray⟩):=by
     have h:=(((Tx.of [34]).cat HT.out).cat (Tx.of [34])).eq
     rw [HR.out]
     exact h
    clear hlt hi
    go_wp2_with fail
    go_ret
    exact ⟨by first | rfl | (rw [HS1.out];rfl),HN0.out⟩
 have b3:((xk:Int) == 3)=false:=by rw [beq_eq_false_iff_ne];omega
 have b3':¬ (xk:Int)=3:=by omega
 by_cases h4:xk=4
 ·subst h4
  obtain rfl:F=xs:=hF.out.symm
  go_wp2_with fail
  go_ret
  exact ⟨rfl,HN0.out⟩
 have b4:((xk:Int) == 4)=false:=by rw [beq_eq_false_iff_ne];omega
 have b4':¬ (xk:Int)=4:=by omega
 by_cases h5:xk=5
 ·subst h5
  have hF5:F=91 :: (commaF (l.map (constF tn sh n))++[93]):=hF.out.symm
  have HF5:=Lib.hid hF5
  have hl31:=HLEN.out
  go_wp2_with fail
  go_loopw [4,5] (fun sv iv wr=>∃ (i:Nat) (S:ByteArray),iv = .int .i64 (i:Int)∧sv = .string S∧i≤l.length∧Hid (Tx S (91 :: commaF ((l.take i).map (constF tn sh n))))∧Nx W wr) (fun _ iv _=>200000 - (intOf iv).toNat)
  case atStart=>exact ⟨0,_,rfl,rfl,Nat.zero_le _,(rfl:Tx ⟨#[91]⟩ [91]),Nx.refl _⟩
  case round =>
   obtain ⟨i,S,rfl,rfl,hi,HS,hn⟩:=hrel
   have HN:=Lib.hid hn
   have hiI:(i:Int)≤100000:=by omega
   have k3:wr.cell? ⟨g,4,none⟩=some (.slice A l.length ac):=(HB.out.below hn).cell 4
   clear hn
   by_cases hlt:i<l.length
   ·have q1:decide ((i:Int)<(l.length:Int))=true:=decide_eq_true (by omega)
    have q2:(i:Int)<(l.length:Int):=by omega
    have hlm:i<(l.map (constF tn sh n)).length:=by rw [List.length_map];exact hlt
    obtain ⟨hst,hle⟩:=commaF_step (l.map (constF tn sh n)) i hlm
    rw [List.getElem_map,← List.map_take,← List.map_take] at hst
    rw [← List.map_take] at hle
    obtain ⟨E,hE⟩:∃ E,Hid (constF tn sh n (l[i]'hlt)=E):=⟨_,Lib.hid rfl⟩
    have hEl:((constF tn sh n l[i]).length:Int)≤1000000000:=by
     have h1:=HLEN.out
     rw [HF5.out] at h1
     rw [hst] at hle
     simp only [List.length_cons,List.length_append] at h1 hle
     omega
    have hSz:(S.size:Int)≤1000000000:=by
     have h1:=HLEN.out
     rw [HF5.out] at h1
     rw [hst] at hle
     rw [HS.out.size]
     simp only [List.length_cons,List.length_append] at h1 hle ⊢
     omega
    have hSzn:S.size≤1000000000:=by omega
    obtain ⟨g2,rfl,hg2,hcs⟩:=HRD.out (by omega)
    obtain ⟨Z,hZ⟩:∃ Z,Hid (zs[i]'(by omega)=Z):=⟨_,Lib.hid rfl⟩
    have hrc:RC n wr (But P (.slice (some ⟨g2,0,none⟩) l.length ac)) Z l[i]:=by
     have:=HALL.out.at_ i (by omega) hlt
     rw [hZ.out] at this
     exact this.keep' (fun g' _ hl=>(HN0.out.trans HN.out).block g' hl) (fun g' h _=>h)
    have hcall:=Lib.hid (HIH.out wr _ Z l[i] hrc (HOK.out _ (List.getElem_mem hlt)) hEl)
    rw [hE.out] at hcall
    obtain ⟨ek,ei,ed,es,el⟩:=Z
    have hcell:∀ j,j<5→wr.cell? ⟨g2,i * 5+j,none⟩=(conA ⟨ek,ei,ed,es,el⟩)[j]?:=fun j hj=>by
     rw [(HN0.out.trans HN.out).cell (p:=⟨g2,i * 5+j,none⟩) hg2,hcs i (by omega) j hj,hZ.out]
    have e0:wr.cell? ⟨g2,i * 5,none⟩=some (.int .i64 (ek:Int)):=hcell 0 (by decide)
    have e1:wr.cell? ⟨g2,i * 5+1,none⟩=some (.int .i64 ei):=hcell 1 (by decide)
    have e2:wr.cell? ⟨g2,i * 5+2,none⟩=some (.int .u64 (ed:Int)):=hcell 2 (by decide)
    have e3:wr.cell? ⟨g2,i * 5+3,none⟩=some (.string ⟨es.toArray⟩):=hcell 3 (by decide)
    have e4:wr.cell? ⟨g2,i * 5+4,none⟩=some el:=hcell 4 (by decide)
    have hst':commaF ((l.take (i+1)).map (constF tn sh n))=(commaF ((l.take i).map (constF tn sh n))++if i=0 then [] else [44,32])++constF tn sh n (l[i]'hlt):=hst
    have HST:=Lib.hid hst'
    have HLE:=Lib.hid hle
    clear hcs hcell hrc hst hst' hle hEl hlm
    go_upto_if 56 with fail
    go_cut [4] (fun v wx=>∃ S2:ByteArray,v = .string S2∧Hid (Tx S2 (91 :: (commaF ((l.take i).map (constF tn sh n))++if i=0 then [] else [44,32])))∧wr=wx)
    case first =>
     go_wp2_with fail
     next h0 =>
      have H0:=Lib.hid h0
      clear h0
      go_meet
      case rel=>exact ⟨_,rfl,by unfold Hid;rw [if_neg (Nat.pos_iff_ne_zero.mp H0.out)];exact HS.out.cat (Tx.of [44,32]),rfl⟩
     next h0 =>
      have H0:=Lib.hid h0
      clear h0
      go_meet
      case rel=>exact ⟨S,rfl,by unfold Hid;rw [if_pos (by have:=H0.out;omega),List.append_nil];exact HS.out,rfl⟩
    case rest =>
    obtain ⟨S2,rfl,HS2,rfl⟩:=hcut
    have HT2:Hid (Tx (S2++⟨E.toArray⟩) (91 :: commaF ((l.take (i+1)).map (constF tn sh n)))):=by
     unfold Hid
     rw [HST.out,hE.out]
     exact HS2.out.cat (Tx.of E)
    have hz3:S2.size+(⟨E.toArray⟩:ByteArray).size≤1000000000:=by
     have h1:=HLEN.out
     rw [HF5.out] at h1
     have h2:=HT2.out.size
     have h3:=HLE.out
     rw [ByteArray.size_append] at h2
     simp only [List.length_cons,List.length_append] at h1 h2
     omega
    go_wp2_with fail
    refine hcall.out.mono ?_;rintro e w5 ⟨rfl,hn5⟩
    go_wp2_with fail
    go_roundw
    case rel=>exact ⟨i+1,_,by go_num,rfl,hlt,HT2,HN.out.trans hn5⟩
    case measure=>simp [intOf];omega
   ·obtain rfl:i=l.length:=by omega
    have q1:decide ((l.length:Int)<(l.length:Int))=false:=decide_eq_false (by omega)
    have hSz:(S.size:Int)+1=(F.length:Int):=by
     rw [HS.out.size,HF5.out,List.take_length]
     simp
    have hS2:S.size+1≤1000000000:=by omega
    have HR:Hid (S++⟨#[93]⟩=⟨F.toArray⟩):=by
     have h:=HS.out
     rw [List.take_length] at h
     have:=(h.cat (Tx.of [93])).eq
     rw [HF5.out]
     exact this
    clear hlt hi
    go_wp2_with fail
    go_ret
    exact ⟨by first | rfl | (rw [HR.out];rfl),HN0.out.trans HN.out⟩
 ·have b5:((xk:Int) == 5)=false:=by rw [beq_eq_false_iff_ne];omega
  have b5':¬ (xk:Int)=5:=by omega
  have hF6:F=123 :: (commaF (pairsF (l.map (constF tn sh n)))++[125]):=by
   have h:=hF.out
   unfold constF at h
   rw [if_neg h1,if_neg h2,if_neg h3,if_neg h4,if_neg h5] at h
   exact h.symm
  have HF6:=Lib.hid hF6
  have hl31:=HLEN.out
  go_wp2_with fail
  go_loopw [6,7] (fun sv iv wr=>∃ (j m:Nat) (S:ByteArray),iv = .int .i64 (j:Int)∧sv = .string S∧Hid (j=2 * m)∧j≤l.length∧Hid (Tx S (123 :: commaF (pairsF ((l.take j).map (constF tn sh n)))))∧Nx W wr) (fun _ iv _=>200000 - (intOf iv).toNat)
  case atStart=>exact ⟨0,0,_,rfl,rfl,(rfl:(0:Nat)=2 * 0),Nat.zero_le _,(rfl:Tx ⟨#[123]⟩ [123]),Nx.refl _⟩
  case round =>
   obtain ⟨i,m,S,rfl,rfl,HM,hi,HS,hn⟩:=hrel
   have HN:=Lib.hid hn
   have hiI:(i:Int)≤100000:=by omega
   have k3:wr.cell? ⟨g,4,none⟩=some (.slice A l.length ac):=(HB.out.below hn).cell 4
   clear hn
   by_cases hlt1:i+1<l.length
   ·have hlt:i<l.length:=by omega
    have q1:decide ((i:Int)+1<(l.length:Int))=true:=decide_eq_true (by omega)
    have q2:(i:Int)+1<(l.length:Int):=by omega
    have q3:(i:Int)<(l.length:Int):=by omega
    obtain ⟨hst,hle⟩:=pairsF_step (l.map (constF tn sh n)) i m HM.out (by rw [List.length_map];exact hlt) (by rw [List.length_map];exact hlt1)
    rw [List.getElem_map,List.getElem_map,← List.map_take,← List.map_take] at hst
    rw [← List.map_take] at hle
    obtain ⟨E1,hE1⟩:∃ E,Hid (constF tn sh n (l[i]'hlt)=E):=⟨_,Lib.hid rfl⟩
    obtain ⟨E2,hE2⟩:∃ E,Hid (constF tn sh n (l[i+1]'hlt1)=E):=⟨_,Lib.hid rfl⟩
    have hsum:S.size+(if i=0 then [] else [44,32]:List UInt8).length+E1.length+2+E2.length+1≤F.length:=by
     rw [HF6.out,HS.out.size]
     rw [hst,hE1.out,hE2.out] at hle
     simp only [List.length_cons,List.length_append,List.length_nil] at hle ⊢
     omega
    have hEl1:((constF tn sh n l[i]).length:Int)≤1000000000:=by rw [hE1.out];have:=HLEN.out;omega
    have hEl2:((constF tn sh n l[i+1]).length:Int)≤1000000000:=by rw [hE2.out];have:=HLEN.out;omega
    have hSzn:S.size≤1000000000:=by have:=HLEN.out;omega
    have hSz:(S.size:Int)≤1000000000:=by omega
    obtain ⟨g2,rfl,hg2,hcs⟩:=HRD.out (by omega)
    obtain ⟨Z1,hZ1⟩:∃ Z,Hid (zs[i]'(by omega)=Z):=⟨_,Lib.hid rfl⟩
    obtain ⟨Z2,hZ2⟩:∃ Z,Hid (zs[i+1]'(by omega)=Z):=⟨_,Lib.hid rfl⟩
    have hrc1:RC n w (But P (.slice (some ⟨g2,0,none⟩) l.length ac)) Z1 l[i]:=by
     have:=HALL.out.at_ i (by omega) hlt
     rw [hZ1.out] at this
     exact this
    have hrc2:RC n w (But P (.slice (some ⟨g2,0,none⟩) l.length ac)) Z2 l[i+1]:=by
     have:=HALL.out.at_ (i+1) (by omega) hlt1
     rw [hZ2.out] at this
     exact this
    have hcall1:∀ wx,Nx w wx→Calls Tryz.prog 9 #[.agg (conA Z1)] wx fun e w'=>e = .returned (.string ⟨E1.toArray⟩)∧Nx wx w':=fun wx hx=>by
     have:=HIH.out wx _ Z1 l[i] (hrc1.keep' (fun g' _ hl=>hx.block g' hl) (fun g' h _=>h)) (HOK.out _ (List.getElem_mem hlt)) hEl1
     rw [hE1.out] at this
     exact this
    have hcall2:∀ wx,Nx w wx→Calls Tryz.prog 9 #[.agg (conA Z2)] wx fun e w'=>e = .returned (.string ⟨E2.toArray⟩)∧Nx wx w':=fun wx hx=>by
     have:=HIH.out wx _ Z2 l[i+1] (hrc2.keep' (fun g' _ hl=>hx.block g' hl) (fun g' h _=>h)) (HOK.out _ (List.getElem_mem hlt1)) hEl2
     rw [hE2.out] at this
     exact this
    have HC1:=Lib.hid hcall1
    have HC2:=Lib.hid hcall2
    obtain ⟨ek,ei,ed,es,el⟩:=Z1
    obtain ⟨dk,di,dd,ds,dl⟩:=Z2
    have hcellA:∀ wx,Nx w wx→∀ j,j<5→wx.cell? ⟨g2,i * 5+j,none⟩=(conA ⟨ek,ei,ed,es,el⟩)[j]?:=fun wx hx j hj=>by
     rw [hx.cell (p:=⟨g2,i * 5+j,none⟩) hg2,hcs i (by omega) j hj,hZ1.out]
    have HCA:=Lib.hid hcellA
    have hcellB:∀ wx,Nx w wx→∀ j,j<5→wx.cell? ⟨g2,(i+1) * 5+j,none⟩=(conA ⟨dk,di,dd,ds,dl⟩)[j]?:=fun wx hx j hj=>by
     rw [hx.cell (p:=⟨g2,(i+1) * 5+j,none⟩) hg2,hcs (i+1) (by omega) j hj,hZ2.out]
    have HCB:=Lib.hid hcellB
    rw [hE1.out,hE2.out] at hst
    have HST:=Lib.hid hst
    have HSUM:=Lib.hid hsum
    have HZQ:Hid ((i:Int)+1<9223372036854775807):=by unfold Hid;omega
    clear hcs hcellA hcellB hrc1 hrc2 hst hle hsum hcall1 hcall2
    go_upto_if 78 with fail
    go_cut [6] (fun v wx=>∃ S2:ByteArray,v = .string S2∧Hid (Tx S2 (123 :: (commaF (pairsF ((l.take i).map (constF tn sh n)))++if i=0 then [] else [44,32])))∧wr=wx)
    case first =>
     clear hE1 hE2 hZ1 hZ2 hEl1 hEl2 HC1 HC2 HCA HCB q1 q2 q3 HST HSUM HZQ hF6 HF6 hl31 hlt1 hlt
     go_wp2_with fail
     next h0 =>
      have H0:=Lib.hid h0
      clear h0
      go_meet
      case rel=>exact ⟨_,rfl,by unfold Hid;rw [if_neg (Nat.pos_iff_ne_zero.mp H0.out)];exact HS.out.cat (Tx.of [44,32]),rfl⟩
     next h0 =>
      have H0:=Lib.hid h0
      clear h0
      go_meet
      case rel=>exact ⟨S,rfl,by unfold Hid;rw [if_pos (by have:=H0.out;omega),List.append_nil];exact HS.out,rfl⟩
    case rest =>
    obtain ⟨S2,rfl,HS2,rfl⟩:=hcut
    have hz0:S2.size+(⟨E1.toArray⟩:ByteArray).size+2+(⟨E2.toArray⟩:ByteArray).size≤1000000000:=by
     have h1:=HLEN.out
     have h2:=HSUM.out
     have h3:=HS.out.size
     have h4:=HS2.out.size
     simp only [List.length_cons,List.length_append] at h3 h4
     rw [(Tx.of E1).size,(Tx.of E2).size]
     omega
    have hzz:=hz0
    rw [(Tx.of E1).size,(Tx.of E2).size] at hzz
    have y1:¬ 9223372036854775807<S2.size+E1.length:=by omega
    have y2:¬ 9223372036854775807<S2.size+E1.length+2:=by omega
    have y3:¬ 9223372036854775807<S2.size+E1.length+2+E2.length:=by omega
    clear hz0
    have HT2:Hid (Tx (((S2++⟨E1.toArray⟩)++⟨#[58,32]⟩)++⟨E2.toArray⟩) (123 :: commaF (pairsF ((l.take (i+2)).map (constF tn sh n))))):=by
     unfold Hid
     rw [HST.out]
     have ht:=((HS2.out.cat (Tx.of E1)).cat (Tx.of [58,32])).cat (Tx.of E2)
     generalize (commaF (pairsF ((l.take i).map (constF tn sh n)))++if i=0 then [] else [44,32])=A at ht ⊢
     have e:123 :: (A++(E1++[58,32]++E2))=(((123 :: A)++E1)++[58,32])++E2:=by simp only [List.cons_append,List.append_assoc]
     rw [e]
     exact ht
    go_wp2_with fail
    have hwr:IntKind.i64.wrap ((i:Int)+1)=(i:Int)+1:=by rw [IntKind.wrap_i64];omega
    have hto:((i:Int)+1).toNat=i+1:=by omega
    have h0le:(0:Int)≤(i:Int)+1:=by omega
    have k4:∀ x:Gr wr,x.1.cell? ⟨g,4,none⟩=some (.slice (some ⟨g2,0,none⟩) l.length ac):=fun x=>(HB.out.below (HN.out.trans x.2)).cell 4
    have e0:∀ x:Gr wr,x.1.cell? ⟨g2,i * 5,none⟩=some (.int .i64 (ek:Int)):=fun x=>HCA.out _ ((HN0.out.trans HN.out).trans x.2) 0 (by decide)
    have e1:∀ x:Gr wr,x.1.cell? ⟨g2,i * 5+1,none⟩=some (.int .i64 ei):=fun x=>HCA.out _ ((HN0.out.trans HN.out).trans x.2) 1 (by decide)
    have e2:∀ x:Gr wr,x.1.cell? ⟨g2,i * 5+2,none⟩=some (.int .u64 (ed:Int)):=fun x=>HCA.out _ ((HN0.out.trans HN.out).trans x.2) 2 (by decide)
    have e3:∀ x:Gr wr,x.1.cell? ⟨g2,i * 5+3,none⟩=some (.string ⟨es.toArray⟩):=fun x=>HCA.out _ ((HN0.out.trans HN.out).trans x.2) 3 (by decide)
    have e4:∀ x:Gr wr,x.1.cell? ⟨g2,i * 5+4,none⟩=some (el):=fun x=>HCA.out _ ((HN0.out.trans HN.out).trans x.2) 4 (by decide)
    have d0:∀ x:Gr wr,x.1.cell? ⟨g2,(i+1) * 5,none⟩=some (.int .i64 (dk:Int)):=fun x=>HCB.out _ ((HN0.out.trans HN.out).trans x.2) 0 (by decide)
    have d1:∀ x:Gr wr,x.1.cell? ⟨g2,(i+1) * 5+1,none⟩=some (.int .i64 di):=fun x=>HCB.out _ ((HN0.out.trans HN.out).trans x.2) 1 (by decide)
    have d2:∀ x:Gr wr,x.1.cell? ⟨g2,(i+1) * 5+2,none⟩=some (.int .u64 (dd:Int)):=fun x=>HCB.out _ ((HN0.out.trans HN.out).trans x.2) 2 (by decide)
    have d3:∀ x:Gr wr,x.1.cell? ⟨g2,(i+1) * 5+3,none⟩=some (.string ⟨ds.toArray⟩):=fun x=>HCB.out _ ((HN0.out.trans HN.out).trans x.2) 3 (by decide)
    have d4:∀ x:Gr wr,x.1.cell? ⟨g2,(i+1) * 5+4,none⟩=some (dl):=fun x=>HCB.out _ ((HN0.out.trans HN.out).trans x.2) 4 (by decide)
    refine wp_region_hyb [(0,true),(1,true),(2,true),(3,true),(4,true),(5,true),(9,true),(10,true),(11,true),(12,true),(13,true),(14,true),(6,false),(7,true),(8,true),(15,false),(16,true),(17,true)] (by kernel_rfl) (by kernel_rfl) ?_
    iterate 12 (refine hyb_calm rfl (fun K hK=>?_);go_simp;refine hK _ ?_;clear hK K)
    refine hyb_alone rfl (fun w4 hn4 K hK=>?_)
    go_simp
    refine (HC1.out w4 ((HN0.out.trans HN.out).trans hn4)).mono ?_;rintro e w5 ⟨rfl,hn5⟩
    refine hK _ _ hn5 ?_
    clear hK K
    iterate 2 (refine hyb_calm rfl (fun K hK=>?_);go_simp;refine hK _ ?_;clear hK K)
    refine hyb_alone rfl (fun w6 hn6 K hK=>?_)
    go_simp
    refine (HC2.out w6 ((((HN0.out.trans HN.out).trans hn4).trans hn5).trans hn6)).mono ?_;rintro e w7 ⟨rfl,hn7⟩
    refine hK _ _ hn7 ?_
    clear hK K
    iterate 2 (refine hyb_calm rfl (fun K hK=>?_);go_simp;refine hK _ ?_;clear hK K)
    refine hyb_nil (fun w8 hn8=>?_)
    have HNN:=Lib.hid (((((HN.out.trans hn4).trans hn5).trans hn6).trans hn7).trans hn8)
    clear hn4 hn5 hn6 hn7 hn8
    go_wp2_with fail
    go_roundw
    case rel=>exact ⟨i+2,m+1,_,by go_num,rfl,by have:=HM.out;unfold Hid;omega,by omega,HT2,HNN.out⟩
    case measure=>simp [intOf];omega
   ·have q1:decide ((i:Int)+1<(l.length:Int))=false:=decide_eq_false (by omega)
    have hend:=pairsF_end (l.map (constF tn sh n)) i m HM.out (by rw [List.length_map];exact hi) (by rw [List.length_map];exact hlt1)
    rw [← List.map_take] at hend
    have hSz:(S.size:Int)+1=(F.length:Int):=by
     rw [HS.out.size,HF6.out,hend]
     simp
    have hS2:S.size+1≤1000000000:=by omega
    have HR:Hid (S++⟨#[125]⟩=⟨F.toArray⟩):=by
     have h:=HS.out
     rw [hend] at h
     have:=(h.cat (Tx.of [125])).eq
     rw [HF6.out]
     exact this
    have HLT:=Lib.hid hlt1
    clear hlt1 hend
    go_wp2_with fail
    go_ret
    exact ⟨by first | rfl | (rw [HR.out];rfl),HN0.out.trans HN.out⟩
theorem const_any {tn:Int→List UInt8} {sh:Nat→List UInt8} (hN:PrN tn sh):∀ n,CoC tn sh n
 | 0=>fun _ _ _ _ _ hok _=>hok.elim
 | n+1=>const_step hN n (const_any hN n)
end Go.Proofs.YteclejplbphkpaaGreat
namespace Go.Proofs.YteclejplbphkpaaGreat
open Go.RowKit
def idF (tn:Int→List UInt8) (b:Bool) (i:Int):List UInt8:=if b then tn i++[58,32] else []
def reqF (r:Nat):List UInt8:=if r=1 then [114,101,113,117,105,114,101,100,32] else if r=2 then [111,112,116,105,111,110,97,108,32] else []
theorem fieldF_eq (tn:Int→List UInt8) (sh:Nat→List UInt8) (f:Fld):fieldF tn sh f=(((((idF tn f.hasID f.id++reqF f.req)++f.ty)++[32])++f.nm)++(if f.hasIn then [32,61,32]++constF tn sh 13 f.ini else [])):=by
 unfold fieldF idF reqF
 simp only [List.append_assoc]
set_option maxRecDepth 100000 in
set_option maxHeartbeats 6400000 in
theorem docField_any {tn:Int→List UInt8} {sh:Nat→List UInt8} (hN:PrN tn sh) (w:World) (P:Nat→Prop) (x:FldS) (f:Fld) (hr:RF w P x f)
  (hi : -9223372036854775808≤f.id∧f.id≤9223372036854775807) (hok:okC 13 f.ini) (hlen:((fieldF tn sh f).length:Int)≤1000000000) :
  Calls Tryz.prog 22 #[.agg (fldA x)] w fun e w'=>e = .returned (.string ⟨(fieldF tn sh f).toArray⟩)∧Nx w w':=by
 obtain ⟨xh,xi,xr,xt,xn,xI,⟨ck,cn,cd,cs,cl⟩⟩:=x
 obtain ⟨fh,fi,fr,ft,fn,fI,fc⟩:=f
 obtain ⟨h1,h2,h3,h4,h5,h6,hrc⟩:=hr
 dsimp only at h1 h2 h3 h4 h5 h6 hrc hi hok
 subst h1 h2 h3 h4 h5 h6
 obtain ⟨F,hF⟩:∃ F,Hid (fieldF tn sh ⟨xh,xi,xr,xt,xn,xI,fc⟩=F):=⟨_,Lib.hid rfl⟩
 rw [hF.out] at hlen ⊢
 have hFe:=hF.out
 rw [fieldF_eq] at hFe
 dsimp only at hFe
 obtain ⟨E,hE⟩:∃ E,Hid (constF tn sh 13 fc=E):=⟨_,Lib.hid rfl⟩
 rw [hE.out] at hFe
 obtain ⟨hi1,hi2⟩:=hi
 have hcall:(E.length:Int)≤1000000000→∀ wx,Nx w wx→Calls Tryz.prog 9 #[.agg (conA ⟨ck,cn,cd,cs,cl⟩)] wx fun e w'=>e = .returned (.string ⟨E.toArray⟩)∧Nx wx w':=fun hl wx hx=>by
  have:=const_any hN 13 wx P _ fc (hrc.keep' (fun g' _ hl=>hx.block g' hl) (fun g' h _=>h)) hok (by rw [hE.out];exact hl)
  rw [hE.out] at this
  exact this
 have HC:=Lib.hid hcall
 have HF:=Lib.hid hFe
 have HLEN:=Lib.hid hlen
 have HTEN:=Lib.hid hN.ten
 have hsz0:(idF tn xh xi).length+(reqF xr).length+xt.length+1+xn.length+(if xI=true then 3+E.length else 0)≤1000000000:=by
  have h:=congrArg List.length hFe
  simp only [List.length_append,List.length_cons,List.length_nil] at h
  cases xI
  ·simp at h ⊢;omega
  ·simp at h ⊢;omega
 have HSZ0:=Lib.hid hsz0
 obtain ⟨g,hg⟩:∃ g,w.heap.size=g:=⟨_,rfl⟩
 have hB:=Blk.new w #[.bool xh,.int .i64 xi,.int .i64 (xr:Int),.string ⟨xt.toArray⟩,.string ⟨xn.toArray⟩,.bool xI,.int .i64 (ck:Int),.int .i64 cn,.int .u64 (cd:Int),.string ⟨cs.toArray⟩,cl] 75
 rw [hg] at hB
 have hn0:Nx w (w.alloc (.cells #[.bool xh,.int .i64 xi,.int .i64 (xr:Int),.string ⟨xt.toArray⟩,.string ⟨xn.toArray⟩,.bool xI,.int .i64 (ck:Int),.int .i64 cn,.int .u64 (cd:Int),.string ⟨cs.toArray⟩,cl] 75)):=nx0 _ _
 have HB:=Lib.hid hB
 have HN0:=Lib.hid hn0
 clear hrc hok hcall hFe hlen hN hB hn0 hsz0
 show Calls _ _ #[.agg #[.bool xh,.int .i64 xi,.int .i64 (xr:Int),.string ⟨xt.toArray⟩,.string ⟨xn.toArray⟩,.bool xI,.int .i64 (ck:Int),.int .i64 cn,.int .u64 (cd:Int),.string ⟨cs.toArray⟩,cl]] _ _
 go_enter Tryz.func22,Tryz.ntmps22
 go_upto_region 2 with fail
 generalize World.alloc w _=W at *
 have c0:W.cell? ⟨g,0,none⟩=some (.bool xh):=HB.out.cell 0
 have c1:W.cell? ⟨g,1,none⟩=some (.int .i64 xi):=HB.out.cell 1
 clear hg
 go_upto_if 5 with fail
 go_cut [3] (fun v wx=>∃ S1:ByteArray,v = .string S1∧Hid (Tx S1 (idF tn xh xi))∧Hid (Nx W wx))
 case first =>
  by_cases hb:xh=true
  ·subst hb
   have hTl2:(tn xi).length+2≤1000000000:=by
    have:=HSZ0.out
    unfold idF at this
    rw [if_pos rfl] at this
    simp only [List.length_append,List.length_cons,List.length_nil] at this
    omega
   have hTl:(⟨(tn xi).toArray⟩:ByteArray).size+2≤1000000000:=by
    rw [(Tx.of (tn xi)).size];exact hTl2
   go_wp2_with fail
   refine (HTEN.out xi W hi1 hi2).mono ?_;rintro e w2 ⟨rfl,hn2⟩
   go_wp2_with fail
   go_meet
   case rel=>exact ⟨_,rfl,by unfold Hid idF;rw [if_pos rfl];exact (Tx.of (tn xi)).cat (Tx.of [58,32]),hn2⟩
  ·obtain rfl:xh=false:=by simpa using hb
   clear hb
   go_wp2_with fail
   go_meet
   case rel=>exact ⟨_,rfl,(rfl:Tx ⟨#[]⟩ []),Nx.refl _⟩
 case rest =>
 obtain ⟨S1,rfl,HS1,HN1⟩:=hcut
 have hWx:=HB.out.below HN1.out
 have HX:=Lib.hid (HN0.out.trans HN1.out)
 have HSZ:Hid (S1.size+(reqF xr).length+xt.length+1+xn.length+(if xI=true then 3+E.length else 0)≤1000000000):=by
  have:=HSZ0.out
  unfold Hid
  rw [HS1.out.size]
  exact this
 have c2:World.cell? _ ⟨g,2,none⟩=some (.int .i64 (xr:Int)):=hWx.cell 2
 have c3:World.cell? _ ⟨g,3,none⟩=some (.string ⟨xt.toArray⟩):=hWx.cell 3
 have c4:World.cell? _ ⟨g,4,none⟩=some (.string ⟨xn.toArray⟩):=hWx.cell 4
 have c5:World.cell? _ ⟨g,5,none⟩=some (.bool xI):=hWx.cell 5
 have c6:World.cell? _ ⟨g,6,none⟩=some (.int .i64 (ck:Int)):=hWx.cell 6
 have c7:World.cell? _ ⟨g,7,none⟩=some (.int .i64 cn):=hWx.cell 7
 have c8:World.cell? _ ⟨g,8,none⟩=some (.int .u64 (cd:Int)):=hWx.cell 8
 have c9:World.cell? _ ⟨g,9,none⟩=some (.string ⟨cs.toArray⟩):=hWx.cell 9
 have c10:World.cell? _ ⟨g,10,none⟩=some cl:=hWx.cell 10
 clear hWx
 by_cases hx1:xr=1
 ·have hR:reqF xr=[114,101,113,117,105,114,101,100,32]:=by rw [hx1];rfl
  have HT:Hid (Tx ((((S1++⟨#[114,101,113,117,105,114,101,100,32]⟩)++⟨xt.toArray⟩)++⟨#[32]⟩)++⟨xn.toArray⟩) (((idF tn xh xi++reqF xr)++xt)++[32]++xn)):=by
   have h:=(((HS1.out.cat (Tx.of [114,101,113,117,105,114,101,100,32])).cat (Tx.of xt)).cat (Tx.of [32])).cat (Tx.of xn)
   unfold Hid
   rw [hR]
   exact h
  have hsz:=HSZ.out
  rw [hR] at hsz
  simp only [List.length_cons,List.length_nil] at hsz
  have hz3:((⟨xt.toArray⟩:ByteArray).size)=xt.length:=(Tx.of xt).size
  have hz4:((⟨xn.toArray⟩:ByteArray).size)=xn.length:=(Tx.of xn).size
  clear hR
  subst hx1
  by_cases hb:xI=true
  ·subst hb
   have HFE:Hid (F=(((idF tn xh xi++reqF 1)++xt)++[32]++xn)++([32,61,32]++E)):=HF.out.symm
   have hEl:(E.length:Int)≤1000000000:=by have:=HLEN.out;rw [HFE.out] at this;simp only [List.length_append] at this;omega
   have hze:((⟨E.toArray⟩:ByteArray).size)=E.length:=(Tx.of E).size
   have hsE:S1.size+9+xt.length+1+xn.length+3+E.length≤1000000000:=by have:=hsz;rw [if_pos rfl] at this;omega
   clear hsz
   have HR:Hid ((((((S1++⟨#[114,101,113,117,105,114,101,100,32]⟩)++⟨xt.toArray⟩)++⟨#[32]⟩)++⟨xn.toArray⟩)++⟨#[32,61,32]⟩)++⟨E.toArray⟩=⟨F.toArray⟩):=by
    have h:=((HT.out.cat (Tx.of [32,61,32])).cat (Tx.of E)).eq
    unfold Hid
    rw [HFE.out,← List.append_assoc]
    exact h
   go_wp2_with fail
   refine (HC.out hEl wc HX.out).mono ?_;rintro e w5 ⟨rfl,hn5⟩
   go_wp2_with fail
   go_ret
   exact ⟨by first | rfl | (rw [HR.out];rfl),HX.out.trans hn5⟩
  ·obtain rfl:xI=false:=by simpa using hb
   have hsE:S1.size+9+xt.length+1+xn.length≤1000000000:=by have:=hsz;rw [if_neg (by decide)] at this;omega
   clear hb hsz
   have HR:Hid ((((S1++⟨#[114,101,113,117,105,114,101,100,32]⟩)++⟨xt.toArray⟩)++⟨#[32]⟩)++⟨xn.toArray⟩=⟨F.toArray⟩):=by
    have h:=HT.out.eq
    rw [← HF.out]
    unfold Hid
    rw [h,if_neg (by decide),List.append_nil]
   go_wp2_with fail
   go_ret
   exact ⟨by first | rfl | (rw [HR.out];rfl),HX.out⟩
 by_cases hx2:xr=2
 ·have hR:reqF xr=[111,112,116,105,111,110,97,108,32]:=by rw [hx2];rfl
  have HT:Hid (Tx ((((S1++⟨#[111,112,116,105,111,110,97,108,32]⟩)++⟨xt.toArray⟩)++⟨#[32]⟩)++⟨xn.toArray⟩) (((idF tn xh xi++reqF xr)++xt)++[32]++xn)):=by
   have h:=(((HS1.out.cat (Tx.of [111,112,116,105,111,110,97,108,32])).cat (Tx.of xt)).cat (Tx.of [32])).cat (Tx.of xn)
   unfold Hid
   rw [hR]
   exact h
  have hsz:=HSZ.out
  rw [hR] at hsz
  simp only [List.length_cons,List.length_nil] at hsz
  have hz3:((⟨xt.toArray⟩:ByteArray).size)=xt.length:=(Tx.of xt).size
  have hz4:((⟨xn.toArray⟩:ByteArray).size)=xn.length:=(Tx.of xn).size
  clear hR
  subst hx2
  by_cases hb:xI=true
  ·subst hb
   have HFE:Hid (F=(((idF tn xh xi++reqF 2)++xt)++[32]++xn)++([32,61,32]++E)):=HF.out.symm
   have hEl:(E.length:Int)≤1000000000:=by have:=HLEN.out;rw [HFE.out] at this;simp only [List.length_append] at this;omega
   have hze:((⟨E.toArray⟩:ByteArray).size)=E.length:=(Tx.of E).size
   have hsE:S1.size+9+xt.length+1+xn.length+3+E.length≤1000000000:=by have:=hsz;rw [if_pos rfl] at this;omega
   clear hsz
   have HR:Hid ((((((S1++⟨#[111,112,116,105,111,110,97,108,32]⟩)++⟨xt.toArray⟩)++⟨#[32]⟩)++⟨xn.toArray⟩)++⟨#[32,61,32]⟩)++⟨E.toArray⟩=⟨F.toArray⟩):=by
    have h:=((HT.out.cat (Tx.of [32,61,32])).cat (Tx.of E)).eq
    unfold Hid
    rw [HFE.out,← List.append_assoc]
    exact h
   go_wp2_with fail
   refine (HC.out hEl wc HX.out).mono ?_;rintro e w5 ⟨rfl,hn5⟩
   go_wp2_with fail
   go_ret
   exact ⟨by first | rfl | (rw [HR.out];rfl),HX.out.trans hn5⟩
  ·obtain rfl:xI=false:=by simpa using hb
   have hsE:S1.size+9+xt.length+1+xn.length≤1000000000:=by have:=hsz;rw [if_neg (by decide)] at this;omega
   clear hb hsz
   have HR:Hid ((((S1++⟨#[111,112,116,105,111,110,97,108,32]⟩)++⟨xt.toArray⟩)++⟨#[32]⟩)++⟨xn.toArray⟩=⟨F.toArray⟩):=by
    have h:=HT.out.eq
    rw [← HF.out]
    unfold Hid
    rw [h,if_neg (by decide),List.append_nil]
   go_wp2_with fail
   go_ret
   exact ⟨by first | rfl | (rw [HR.out];rfl),HX.out⟩
 have hR:reqF xr=[]:=by unfold reqF;rw [if_neg hx1,if_neg hx2]
 have HT:Hid (Tx (((S1++⟨xt.toArray⟩)++⟨#[32]⟩)++⟨xn.toArray⟩) (((idF tn xh xi++reqF xr)++xt)++[32]++xn)):=by
  have h:=((HS1.out.cat (Tx.of xt)).cat (Tx.of [32])).cat (Tx.of xn)
  unfold Hid
  rw [hR]
  rw [List.append_nil]
  exact h
 have hsz:=HSZ.out
 rw [hR] at hsz
 simp only [List.length_cons,List.length_nil] at hsz
 have hz3:((⟨xt.toArray⟩:ByteArray).size)=xt.length:=(Tx.of xt).size
 have hz4:((⟨xn.toArray⟩:ByteArray).size)=xn.length:=(Tx.of xn).size
 clear hR
 have b1:((xr:Int) == 1)=false:=by rw [beq_eq_false_iff_ne];omega
 have b2:((xr:Int) == 2)=false:=by rw [beq_eq_false_iff_ne];omega
 have b1':¬ (xr:Int)=1:=by omega
 have b2':¬ (xr:Int)=2:=by omega
 by_cases hb:xI=true
 ·subst hb
  have HFE:Hid (F=(((idF tn xh xi++reqF xr)++xt)++[32]++xn)++([32,61,32]++E)):=HF.out.symm
  have hEl:(E.length:Int)≤1000000000:=by have:=HLEN.out;rw [HFE.out] at this;simp only [List.length_append] at this;omega
  have hze:((⟨E.toArray⟩:ByteArray).size)=E.length:=(Tx.of E).size
  have hsE:S1.size+0+xt.length+1+xn.length+3+E.length≤1000000000:=by have:=hsz;rw [if_pos rfl] at this;omega
  clear hsz
  have HR:Hid (((((S1++⟨xt.toArray⟩)++⟨#[32]⟩)++⟨xn.toArray⟩)++⟨#[32,61,32]⟩)++⟨E.toArray⟩=⟨F.toArray⟩):=by
   have h:=((HT.out.cat (Tx.of [32,61,32])).cat (Tx.of E)).eq
   unfold Hid
   rw [HFE.out,← List.append_assoc]
   exact h
  go_wp2_with fail
  refine (HC.out hEl wc HX.out).mono ?_;rintro e w5 ⟨rfl,hn5⟩
  go_wp2_with fail
  go_ret
  exact ⟨by first | rfl | (rw [HR.out];rfl),HX.out.trans hn5⟩
 ·obtain rfl:xI=false:=by simpa using hb
  have hsE:S1.size+0+xt.length+1+xn.length≤1000000000:=by have:=hsz;rw [if_neg (by decide)] at this;omega
  clear hb hsz
  have HR:Hid (((S1++⟨xt.toArray⟩)++⟨#[32]⟩)++⟨xn.toArray⟩=⟨F.toArray⟩):=by
   have h:=HT.out.eq
   rw [← HF.out]
   unfold Hid
   rw [h,if_neg (by decide),List.append_nil]
  go_wp2_with fail
  go_ret
  exact ⟨by first | rfl | (rw [HR.out];rfl),HX.out⟩
end Go.Proofs.YteclejplbphkpaaGreat
namespace Go.Proofs.YteclejplbphkpaaGreat
open Go.RowKit
def okF (f:Fld):Prop:=(-9223372036854775808≤f.id∧f.id≤9223372036854775807)∧okC 13 f.ini
theorem RF.keep {P Q:Nat→Prop} {w w':World} {x:FldS} {c:Fld} (h:RF w P x c) (hk:∀ g,P g→g<w.heap.size→w'.heap[g]? = w.heap[g]?) (hq:∀ g,P g→g<w.heap.size→Q g):RF w' Q x c:=RF.lasts ⟨hk,hq⟩ h
set_option maxRecDepth 100000 in
set_option maxHeartbeats 6400000 in
theorem docFields_any {tn:Int→List UInt8} {sh:Nat→List UInt8} (hN:PrN tn sh) (w:World) (P:Nat→Prop) (v:Value) (l:List Fld) (hr:LF w P v l) (hll:l.length≤100000)
  (hok:∀ y ∈ l,okF y) (hlen:((fieldsF tn sh l).length:Int)≤1000000000) :
  Calls Tryz.prog 47 #[v] w fun e w'=>e = .returned (.string ⟨(fieldsF tn sh l).toArray⟩)∧Nx w w':=by
 obtain ⟨A,ac,zs,rfl,hzl,hzc,hzm,hrd,hall2⟩:=hr.sl fldA_size
 obtain ⟨F,hF⟩:∃ F,Hid (fieldsF tn sh l=F):=⟨_,Lib.hid rfl⟩
 rw [hF.out] at hlen ⊢
 have hF5:F=commaF (l.map (fieldF tn sh)):=hF.out.symm
 have HF5:=Lib.hid hF5
 have HRD:=Lib.hid hrd
 have HALL:=Lib.hid hall2
 have HOK:=Lib.hid hok
 have HLEN:=Lib.hid hlen
 have HN:=Lib.hid hN
 clear hrd hall2 hr hok hlen hN hF5
 go_enter Tryz.func47,Tryz.ntmps47
 go_wp2_with fail
 go_loopw [3,4] (fun sv iv wr=>∃ (i:Nat) (S:ByteArray),iv = .int .i64 (i:Int)∧sv = .string S∧i≤l.length∧Hid (Tx S (commaF ((l.take i).map (fieldF tn sh))))∧Nx w wr) (fun _ iv _=>200000 - (intOf iv).toNat)
 case atStart=>exact ⟨0,_,rfl,rfl,Nat.zero_le _,(rfl:Tx ⟨#[]⟩ []),Nx.refl _⟩
 case round =>
  obtain ⟨i,S,rfl,rfl,hi,HS,hn⟩:=hrel
  have HNX:=Lib.hid hn
  have hiI:(i:Int)≤100000:=by omega
  clear hn
  by_cases hlt:i<l.length
  ·have q1:decide ((i:Int)<(l.length:Int))=true:=decide_eq_true (by omega)
   have q2:(i:Int)<(l.length:Int):=by omega
   have hlm:i<(l.map (fieldF tn sh)).length:=by rw [List.length_map];exact hlt
   obtain ⟨hst,hle⟩:=commaF_step (l.map (fieldF tn sh)) i hlm
   rw [List.getElem_map,← List.map_take,← List.map_take] at hst
   rw [← List.map_take] at hle
   obtain ⟨E,hE⟩:∃ E,Hid (fieldF tn sh (l[i]'hlt)=E):=⟨_,Lib.hid rfl⟩
   have hsum:S.size+(if i=0 then [] else [44,32]:List UInt8).length+E.length≤F.length:=by
    rw [HF5.out,HS.out.size]
    rw [hst,hE.out] at hle
    simp only [List.length_cons,List.length_append,List.length_nil] at hle ⊢
    omega
   have hEl:((fieldF tn sh l[i]).length:Int)≤1000000000:=by rw [hE.out];have:=HLEN.out;omega
   have hSz:(S.size:Int)≤1000000000:=by have:=HLEN.out;omega
   have hSzn:S.size≤1000000000:=by omega
   obtain ⟨g2,rfl,hg2,hcs⟩:=HRD.out (by omega)
   obtain ⟨Z,hZ⟩:∃ Z,Hid (zs[i]'(by omega)=Z):=⟨_,Lib.hid rfl⟩
   have hrc:RF wr (But P (.slice (some ⟨g2,0,none⟩) l.length ac)) Z l[i]:=by
    have:=HALL.out.at_ i (by omega) hlt
    rw [hZ.out] at this
    exact this.keep (fun g' _ hl=>HNX.out.block g' hl) (fun g' h _=>h)
   have hoki:=HOK.out _ (List.getElem_mem hlt)
   have hcall:=Lib.hid (docField_any HN.out wr _ Z l[i] hrc hoki.1 hoki.2 hEl)
   rw [hE.out] at hcall
   obtain ⟨eh,ei,er,et,en,eI,⟨ck,cn,cd,cs,cl⟩⟩:=Z
   have hcell:∀ j,j<11→wr.cell? ⟨g2,i * 11+j,none⟩=(fldA ⟨eh,ei,er,et,en,eI,⟨ck,cn,cd,cs,cl⟩⟩)[j]?:=fun j hj=>by
    rw [HNX.out.cell (p:=⟨g2,i * 11+j,none⟩) hg2,hcs i (by omega) j hj,hZ.out]
   have e0:wr.cell? ⟨g2,i * 11,none⟩=some (.bool eh):=hcell 0 (by decide)
   have e1:wr.cell? ⟨g2,i * 11+1,none⟩=some (.int .i64 ei):=hcell 1 (by decide)
   have e2:wr.cell? ⟨g2,i * 11+2,none⟩=some (.int .i64 (er:Int)):=hcell 2 (by decide)
   have e3:wr.cell? ⟨g2,i * 11+3,none⟩=some (.string ⟨et.toArray⟩):=hcell 3 (by decide)
   have e4:wr.cell? ⟨g2,i * 11+4,none⟩=some (.string ⟨en.toArray⟩):=hcell 4 (by decide)
   have e5:wr.cell? ⟨g2,i * 11+5,none⟩=some (.bool eI):=hcell 5 (by decide)
   have e6:wr.cell? ⟨g2,i * 11+6,none⟩=some (.int .i64 (ck:Int)):=hcell 6 (by decide)
   have e7:wr.cell? ⟨g2,i * 11+7,none⟩=some (.int .i64 cn):=hcell 7 (by decide)
   have e8:wr.cell? ⟨g2,i * 11+8,none⟩=some (.int .u64 (cd:Int)):=hcell 8 (by decide)
   have e9:wr.cell? ⟨g2,i * 11+9,none⟩=some (.string ⟨cs.toArray⟩):=hcell 9 (by decide)
   have e10:wr.cell? ⟨g2,i * 11+10,none⟩=some cl:=hcell 10 (by decide)
   rw [hE.out] at hst
   have HST:=Lib.hid hst
   have HSUM:=Lib.hid hsum
   clear hcs hcell hrc hst hle hlm hsum hoki
   go_upto_if 12 with fail
   go_cut [3] (fun v wx=>∃ S2:ByteArray,v = .string S2∧Hid (Tx S2 (commaF ((l.take i).map (fieldF tn sh))++if i=0 then [] else [44,32]))∧wr=wx)
   case first =>
    go_wp2_with fail
    next h0 =>
     have H0:=Lib.hid h0
     clear h0
     go_meet
     case rel=>exact ⟨_,rfl,by unfold Hid;rw [if_neg (Nat.pos_iff_ne_zero.mp H0.out)];exact HS.out.cat (Tx.of [44,32]),rfl⟩
    next h0 =>
     have H0:=Lib.hid h0
     clear h0
     go_meet
     case rel=>exact ⟨S,rfl,by unfold Hid;rw [if_pos (by have:=H0.out;omega),List.append_nil];exact HS.out,rfl⟩
   case rest =>
   obtain ⟨S2,rfl,HS2,rfl⟩:=hcut
   have HT2:Hid (Tx (S2++⟨E.toArray⟩) (commaF ((l.take (i+1)).map (fieldF tn sh)))):=by
    unfold Hid
    rw [HST.out]
    exact HS2.out.cat (Tx.of E)
   have hz3:S2.size+(⟨E.toArray⟩:ByteArray).size≤1000000000:=by
    have h1:=HLEN.out
    have h2:=HSUM.out
    have h3:=HS.out.size
    have h4:=HS2.out.size
    simp only [List.length_cons,List.length_append] at h3 h4
    rw [(Tx.of E).size]
    omega
   go_wp2_with fail
   refine hcall.out.mono ?_;rintro e w5 ⟨rfl,hn5⟩
   go_wp2_with fail
   go_roundw
   case rel=>exact ⟨i+1,_,by go_num,rfl,hlt,HT2,HNX.out.trans hn5⟩
   case measure=>simp [intOf];omega
  ·obtain rfl:i=l.length:=by omega
   have q1:decide ((l.length:Int)<(l.length:Int))=false:=decide_eq_false (by omega)
   have HR:Hid (S=⟨F.toArray⟩):=by
    have h:=HS.out
    rw [List.take_length,← HF5.out] at h
    exact h.eq
   clear hlt hi
   go_wp2_with fail
   go_ret
   exact ⟨by rw [HR.out];rfl,HNX.out⟩
end Go.Proofs.YteclejplbphkpaaGreat
