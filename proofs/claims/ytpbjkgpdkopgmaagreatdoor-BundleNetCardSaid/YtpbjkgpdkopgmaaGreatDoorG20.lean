/- The contracts of names, types' first words, at the cursor. The contracts of types at the cursor. Reading of elements: what is asked of who reads one, and how it goes on. Plain lemmas. -/
import Derived.Test.YtpbjkgpdkopgmaaGreatDoorG19
import Derived.Test.YtpbjkgpdkopgmaaGreatDoorG17
set_option linter.unusedVariables false
set_option linter.unusedSimpArgs false
set_option linter.unnecessarySimpa false
namespace Go.Proofs.YtpbjkgpdkopgmaaGreatDoor
open Go.RowKit
section
variable {w:World} {b c:Nat} {A:Option Addr} {ws:List TokV} {s:PSt}
set_option maxRecDepth 100000 in
set_option maxHeartbeats 1600000 in
theorem atPlain_any (h0:PC w b A c ws s) (B:Bool) (hB:atPlainP ws s=B) :
  Calls Tryz.prog 101 #[.pointer (some ⟨b,0,none⟩)] w fun e w'=>e = .returned (.bool B)∧Nx w w':=by
 have H:=Lib.hid h0
 obtain ⟨N,hN⟩:∃ N,Hid (atNameP ws s=N):=⟨_,rfl⟩
 have htx:=h0.fin.word s
 obtain ⟨⟨tk,tt,tn,td,tp⟩,hT⟩:∃ T,Hid (wordP ws s=T):=⟨_,rfl⟩
 rw [hT.out] at htx
 have HTX:Hid ((tt.length:Int)≤8000):=by unfold Hid;have:((tt.length:Nat):Int)≤2000:=htx;omega
 have HB:Hid ((N && plainP tt)=B):=by unfold Hid;rw [← hB];unfold atPlainP;rw [hN.out,hT.out]
 have F1:∀ w1,(Instr.field 92 (.agg #[.int .i64 (tk:Int),.string ⟨tt.toArray⟩,.int .i64 tn,.int .u64 (td:Int),.int .i64 (tp:Int)]) 1).run Tryz.prog w1 = .ok (.string ⟨tt.toArray⟩) w1:=fun w1=>(tok_field _ _ _ _ _ w1).2.1
 clear h0 hB htx
 go_enter Tryz.func101,Tryz.ntmps101
 go_wp2_with fail
 refine (atName_any H.out N hN.out).mono ?_;rintro e w1 ⟨rfl,hn1⟩
 have HN1:=Lib.hid hn1
 clear hn1
 cases N
 ·obtain rfl:false=B:=HB.out
  go_wp2_with fail
  go_ret
  exact ⟨rfl,HN1.out⟩
 ·have HB2:Hid (plainP tt=B):=HB.out
  clear HB
  go_wp2_with fail
  refine (word_any' (H.out.nx HN1.out) _ _ _ _ _ hT.out).mono ?_;rintro e w2 ⟨rfl,hn2⟩
  have HN2:=Lib.hid hn2
  clear hn2
  go_wp2_with fail
  refine (plain_any' w2 _ tt (Tx.of tt) B HB2.out HTX.out ((H.out.nx HN1.out).nx HN2.out).tab ((H.out.nx HN1.out).nx HN2.out).mx).mono ?_;rintro e w3 ⟨rfl,hn3⟩
  go_wp2_with fail
  go_ret
  exact ⟨rfl,(HN1.out.trans HN2.out).trans hn3⟩
theorem atPlain_k {ws:List TokV} {s:PSt} (h:atPlainP ws s=true):s.e=0→(ws.getD s.i tok0).k≠6:=by
 intro he h6
 unfold atPlainP atNameP at h
 have hw:wordP ws s=ws.getD s.i tok0:=by unfold wordP;rw [if_neg (by simpa using he)]
 rw [hw,h6] at h
 simp at h
theorem atQual_k {ws:List TokV} {s:PSt} (h:atQualP ws s=true):s.e=0→(ws.getD s.i tok0).k≠6:=by
 intro he h6
 unfold atQualP atNameP at h
 have hw:wordP ws s=ws.getD s.i tok0:=by unfold wordP;rw [if_neg (by simpa using he)]
 rw [hw,h6] at h
 simp at h
theorem atType_k {ws:List TokV} {s:PSt} (h:atTypeP ws s=true):s.e=0→(ws.getD s.i tok0).k≠6:=by
 intro he h6
 unfold atTypeP atNameP at h
 have hw:wordP ws s=ws.getD s.i tok0:=by unfold wordP;rw [if_neg (by simpa using he)]
 rw [hw,h6] at h
 simp at h
theorem is_k {ws:List TokV} {s:PSt} {l:List UInt8} (h:isP ws l s=true):s.e=0→(ws.getD s.i tok0).k≠6:=by
 intro he h6
 unfold isP at h
 have hw:wordP ws s=ws.getD s.i tok0:=by unfold wordP;rw [if_neg (by simpa using he)]
 rw [hw,h6] at h
 simp at h
theorem word_k {ws:List TokV} {s:PSt} {k:Nat} (h:(wordP ws s).k=k) (h1:k≠6):s.e=0→(ws.getD s.i tok0).k≠6:=by
 intro he h6
 have hw:wordP ws s=ws.getD s.i tok0:=by unfold wordP;rw [if_neg (by simpa using he)]
 rw [hw,h6] at h
 exact h1 h.symm
theorem fail_k {ws:List TokV} {s:PSt} {k:Nat} (hk:k≠0):(failP k s).e=0→(ws.getD (failP k s).i tok0).k≠6:=by
 intro he
 unfold failP at he
 split at he
 ·rename_i h;exact absurd he h
 ·exact absurd he hk
set_option maxRecDepth 100000 in
set_option maxHeartbeats 1600000 in
theorem plainN_any (h0:PC w b A c ws s) (l:List UInt8) (s':PSt) (hr:plainN ws s=(l,s')) :
  Calls Tryz.prog 97 #[.pointer (some ⟨b,0,none⟩)] w fun e w'=>e = .returned (.string ⟨l.toArray⟩)∧PC w' b A c ws s'∧Oth b w w':=by
 have H:=Lib.hid h0
 obtain ⟨B,hB⟩:∃ B,Hid (atPlainP ws s=B):=⟨_,rfl⟩
 have HR:Hid (((wordP ws (if B then s else failP 2 s)).t,nextP (if B then s else failP 2 s))=(l,s')):=by unfold Hid;rw [← hr];unfold plainN;rw [hB.out]
 clear h0 hr
 go_enter Tryz.func97,Tryz.ntmps97
 go_wp2_with fail
 refine (atPlain_any H.out B hB.out).mono ?_;rintro e w1 ⟨rfl,hn1⟩
 have HN1:=Lib.hid hn1
 have HP1:=Lib.hid (H.out.nx hn1)
 clear hn1
 cases B
 ·go_wp2_with fail
  refine (fail_any HP1.out 2 (by decide) (by decide)).mono ?_;rintro e w2 ⟨rfl,hp2,ho2⟩
  have HP2:=Lib.hid hp2
  have HO2:=Lib.hid ho2
  obtain ⟨⟨tk,tt,tn,td,tp⟩,hT⟩:∃ T,Hid (wordP ws (failP 2 s)=T):=⟨_,rfl⟩
  have hx:=HR.out
  rw [if_neg (by simp),hT.out] at hx
  simp only [Prod.mk.injEq] at hx
  obtain ⟨rfl,rfl⟩:=hx
  have F1:∀ w1,(Instr.field 92 (.agg #[.int .i64 (tk:Int),.string ⟨tt.toArray⟩,.int .i64 tn,.int .u64 (td:Int),.int .i64 (tp:Int)]) 1).run Tryz.prog w1 = .ok (.string ⟨tt.toArray⟩) w1:=fun w1=>(tok_field _ _ _ _ _ w1).2.1
  clear hp2 ho2
  go_wp2_with fail
  refine (next_any HP2.out (fail_k (by decide)) _ _ _ _ _ hT.out).mono ?_;rintro e w3 ⟨rfl,hp3,ho3⟩
  go_wp2_with fail
  go_ret
  exact ⟨rfl,hp3,((Oth.nx HN1.out).trans HO2.out).trans ho3⟩
 ·have HK:=Lib.hid (atPlain_k hB.out)
  obtain ⟨⟨tk,tt,tn,td,tp⟩,hT⟩:∃ T,Hid (wordP ws s=T):=⟨_,rfl⟩
  have hx:=HR.out
  rw [if_pos rfl,hT.out] at hx
  simp only [Prod.mk.injEq] at hx
  obtain ⟨rfl,rfl⟩:=hx
  have F1:∀ w1,(Instr.field 92 (.agg #[.int .i64 (tk:Int),.string ⟨tt.toArray⟩,.int .i64 tn,.int .u64 (td:Int),.int .i64 (tp:Int)]) 1).run Tryz.prog w1 = .ok (.string ⟨tt.toArray⟩) w1:=fun w1=>(tok_field _ _ _ _ _ w1).2.1
  go_wp2_with fail
  refine (next_any HP1.out HK.out _ _ _ _ _ hT.out).mono ?_;rintro e w3 ⟨rfl,hp3,ho3⟩
  go_wp2_with fail
  go_ret
  exact ⟨rfl,hp3,(Oth.nx HN1.out).trans ho3⟩
set_option maxRecDepth 100000 in
set_option maxHeartbeats 1600000 in
theorem qualN_any (h0:PC w b A c ws s) (l:List UInt8) (s':PSt) (hr:qualN ws s=(l,s')) :
  Calls Tryz.prog 91 #[.pointer (some ⟨b,0,none⟩)] w fun e w'=>e = .returned (.string ⟨l.toArray⟩)∧PC w' b A c ws s'∧Oth b w w':=by
 have H:=Lib.hid h0
 obtain ⟨N,hN⟩:∃ N,Hid (atNameP ws s=N):=⟨_,rfl⟩
 have htx:=h0.fin.word s
 obtain ⟨⟨tk,tt,tn,td,tp⟩,hT⟩:∃ T,Hid (wordP ws s=T):=⟨_,rfl⟩
 rw [hT.out] at htx
 have HTX:Hid ((tt.length:Int)≤8000):=by unfold Hid;have:((tt.length:Nat):Int)≤2000:=htx;omega
 obtain ⟨C,hC⟩:∃ C,Hid (qualP tt=C):=⟨_,rfl⟩
 have HR:Hid (((wordP ws (if (N && C) then s else failP 2 s)).t,nextP (if (N && C) then s else failP 2 s))=(l,s')):=by unfold Hid;rw [← hr];unfold qualN atQualP;rw [hN.out,hT.out,hC.out]
 have F1:∀ w1,(Instr.field 92 (.agg #[.int .i64 (tk:Int),.string ⟨tt.toArray⟩,.int .i64 tn,.int .u64 (td:Int),.int .i64 (tp:Int)]) 1).run Tryz.prog w1 = .ok (.string ⟨tt.toArray⟩) w1:=fun w1=>(tok_field _ _ _ _ _ w1).2.1
 have bad:∀ w1,PC w1 b A c ws s→Oth b w w1→True:=fun _ _ _=>trivial
 clear h0 hr htx bad
 go_enter Tryz.func91,Tryz.ntmps91
 go_wp2_with fail
 refine (atName_any H.out N hN.out).mono ?_;rintro e w1 ⟨rfl,hn1⟩
 have HN1:=Lib.hid hn1
 have HP1:=Lib.hid (H.out.nx hn1)
 clear hn1
 cases N
 ·obtain ⟨⟨uk,ut,un,ud,up⟩,hU⟩:∃ T,Hid (wordP ws (failP 2 s)=T):=⟨_,rfl⟩
  have hx:=HR.out
  rw [if_neg (by simp),hU.out] at hx
  simp only [Prod.mk.injEq] at hx
  obtain ⟨rfl,rfl⟩:=hx
  have F2:∀ w1,(Instr.field 92 (.agg #[.int .i64 (uk:Int),.string ⟨ut.toArray⟩,.int .i64 un,.int .u64 (ud:Int),.int .i64 (up:Int)]) 1).run Tryz.prog w1 = .ok (.string ⟨ut.toArray⟩) w1:=fun w1=>(tok_field _ _ _ _ _ w1).2.1
  go_wp2_with fail
  refine (fail_any HP1.out 2 (by decide) (by decide)).mono ?_;rintro e w2 ⟨rfl,hp2,ho2⟩
  have HP2:=Lib.hid hp2
  have HO2:=Lib.hid ho2
  clear hp2 ho2
  go_wp2_with fail
  refine (next_any HP2.out (fail_k (by decide)) _ _ _ _ _ hU.out).mono ?_;rintro e w3 ⟨rfl,hp3,ho3⟩
  go_wp2_with fail
  go_ret
  exact ⟨rfl,hp3,((Oth.nx HN1.out).trans HO2.out).trans ho3⟩
 ·go_wp2_with fail
  refine (word_any' HP1.out _ _ _ _ _ hT.out).mono ?_;rintro e w2 ⟨rfl,hn2⟩
  have HN2:=Lib.hid (HN1.out.trans hn2)
  have HP2:=Lib.hid (HP1.out.nx hn2)
  clear hn2
  go_wp2_with fail
  refine (qual_any w2 _ tt (Tx.of tt) C hC.out HTX.out HP2.out.tab HP2.out.mx).mono ?_;rintro e w3 ⟨rfl,hn3⟩
  have HN3:=Lib.hid (HN2.out.trans hn3)
  have HP3:=Lib.hid (HP2.out.nx hn3)
  clear hn3
  cases C
  ·obtain ⟨⟨uk,ut,un,ud,up⟩,hU⟩:∃ T,Hid (wordP ws (failP 2 s)=T):=⟨_,rfl⟩
   have hx:=HR.out
   rw [if_neg (by simp),hU.out] at hx
   simp only [Prod.mk.injEq] at hx
   obtain ⟨rfl,rfl⟩:=hx
   have F2:∀ w1,(Instr.field 92 (.agg #[.int .i64 (uk:Int),.string ⟨ut.toArray⟩,.int .i64 un,.int .u64 (ud:Int),.int .i64 (up:Int)]) 1).run Tryz.prog w1 = .ok (.string ⟨ut.toArray⟩) w1:=fun w1=>(tok_field _ _ _ _ _ w1).2.1
   go_wp2_with fail
   refine (fail_any HP3.out 2 (by decide) (by decide)).mono ?_;rintro e w4 ⟨rfl,hp2,ho2⟩
   have HP4:=Lib.hid hp2
   have HO4:=Lib.hid ho2
   clear hp2 ho2
   go_wp2_with fail
   refine (next_any HP4.out (fail_k (by decide)) _ _ _ _ _ hU.out).mono ?_;rintro e w5 ⟨rfl,hp3,ho3⟩
   go_wp2_with fail
   go_ret
   exact ⟨rfl,hp3,((Oth.nx HN3.out).trans HO4.out).trans ho3⟩
  ·have HK:=Lib.hid (atQual_k (ws:=ws) (s:=s) (by unfold atQualP;rw [hN.out,hT.out,hC.out];rfl))
   have hx:=HR.out
   rw [if_pos (by simp),hT.out] at hx
   simp only [Prod.mk.injEq] at hx
   obtain ⟨rfl,rfl⟩:=hx
   go_wp2_with fail
   refine (next_any HP3.out HK.out _ _ _ _ _ hT.out).mono ?_;rintro e w5 ⟨rfl,hp3,ho3⟩
   go_wp2_with fail
   go_ret
   exact ⟨rfl,hp3,(Oth.nx HN3.out).trans ho3⟩
set_option maxRecDepth 100000 in
set_option maxHeartbeats 1600000 in
theorem atType_any (h0:PC w b A c ws s) (B:Bool) (hB:atTypeP ws s=B) :
  Calls Tryz.prog 146 #[.pointer (some ⟨b,0,none⟩)] w fun e w'=>e = .returned (.bool B)∧Nx w w':=by
 have H:=Lib.hid h0
 obtain ⟨N,hN⟩:∃ N,Hid (atNameP ws s=N):=⟨_,rfl⟩
 have htx:=h0.fin.word s
 obtain ⟨⟨tk,tt,tn,td,tp⟩,hT⟩:∃ T,Hid (wordP ws s=T):=⟨_,rfl⟩
 rw [hT.out] at htx
 have HTX:Hid ((tt.length:Int)≤8000):=by unfold Hid;have:((tt.length:Nat):Int)≤2000:=htx;omega
 obtain ⟨O,hO⟩:∃ O,Hid (oftP tt=O):=⟨_,rfl⟩
 obtain ⟨C,hC⟩:∃ C,Hid (qualP tt=C):=⟨_,rfl⟩
 have HB:Hid ((N && (O || C))=B):=by unfold Hid;rw [← hB];unfold atTypeP;rw [hN.out,hT.out,hO.out,hC.out]
 have F1:∀ w1,(Instr.field 92 (.agg #[.int .i64 (tk:Int),.string ⟨tt.toArray⟩,.int .i64 tn,.int .u64 (td:Int),.int .i64 (tp:Int)]) 1).run Tryz.prog w1 = .ok (.string ⟨tt.toArray⟩) w1:=fun w1=>(tok_field _ _ _ _ _ w1).2.1
 clear h0 hB htx
 go_enter Tryz.func146,Tryz.ntmps146
 go_wp2_with fail
 refine (atName_any H.out N hN.out).mono ?_;rintro e w1 ⟨rfl,hn1⟩
 have HN1:=Lib.hid hn1
 have HP1:=Lib.hid (H.out.nx hn1)
 clear hn1
 cases N
 ·obtain rfl:false=B:=HB.out
  go_wp2_with fail
  go_ret
  exact ⟨rfl,HN1.out⟩
 ·go_wp2_with fail
  refine (word_any' HP1.out _ _ _ _ _ hT.out).mono ?_;rintro e w2 ⟨rfl,hn2⟩
  have HN2:=Lib.hid (HN1.out.trans hn2)
  have HP2:=Lib.hid (HP1.out.nx hn2)
  clear hn2
  go_wp2_with fail
  refine (isOfType_any w2 _ tt (Tx.of tt) O hO.out).mono ?_;rintro e w3 ⟨rfl,rfl⟩
  cases O
  ·go_wp2_with fail
   refine (word_any' HP2.out _ _ _ _ _ hT.out).mono ?_;rintro e w4 ⟨rfl,hn4⟩
   have HN4:=Lib.hid (HN2.out.trans hn4)
   have HP4:=Lib.hid (HP2.out.nx hn4)
   clear hn4
   have HB2:Hid (C=B):=HB.out
   go_wp2_with fail
   refine (qual_any w4 _ tt (Tx.of tt) C hC.out HTX.out HP4.out.tab HP4.out.mx).mono ?_;rintro e w5 ⟨rfl,hn5⟩
   go_wp2_with fail
   go_ret
   rw [HB2.out]
   exact ⟨rfl,HN4.out.trans hn5⟩
  ·obtain rfl:true=B:=HB.out
   go_wp2_with fail
   go_ret
   exact ⟨rfl,HN2.out⟩
end
end Go.Proofs.YtpbjkgpdkopgmaaGreatDoor
namespace Go.Proofs.YtpbjkgpdkopgmaaGreatDoor
open Go.RowKit
theorem split_len:∀ (l:List UInt8),((splitP l).map fun p=>p.length+1).sum=l.length+1
 | []=>rfl
 | c :: r=>by
  have ih:=split_len r
  unfold splitP
  split
  ·simp [ih];omega
  ·split
   ·rename_i h;rw [h] at ih;simp at ih
   ·rename_i a bb h;rw [h] at ih;simp at ih ⊢;omega
theorem plain_len {l:List UInt8} (h:plainP l=true):l.length≤40:=by
 unfold plainP at h
 simp only [Bool.and_eq_true,decide_eq_true_eq] at h
 exact h.1.1.1
theorem sum_le (l:List (List UInt8)) (h:∀ p ∈ l,p.length≤40):(l.map fun p=>p.length+1).sum≤41 * l.length:=by
 induction l with
 | nil=>simp
 | cons a r ih =>
  have:=ih fun p hp=>h p (by simp [hp])
  have:=h a (by simp)
  simp
  omega
theorem qual_len {l:List UInt8} (h:qualP l=true):l.length≤122:=by
 unfold qualP at h
 simp only [Bool.and_eq_true,decide_eq_true_eq,List.all_eq_true] at h
 have h1:=split_len l
 have h2:=sum_le _ fun p hp=>plain_len (h.2 p hp)
 have:=h.1
 omega
theorem oft_len {l:List UInt8} (h:oftP l=true):l.length≤6:=by
 unfold oftP oftB at h
 simp at h
 rcases h with rfl | rfl | rfl | rfl | rfl | rfl | rfl | rfl | rfl | rfl | rfl | rfl <;> decide
theorem leaf_len (ws:List TokV) (s:PSt):(leafP ws s).1.length≤122:=by
 unfold leafP
 split
 ·simp
 ·split
  ·rename_i h
   unfold atTypeP at h
   simp only [Bool.and_eq_true,Bool.or_eq_true] at h
   rcases h.2 with h | h
   ·have:=oft_len h;simp;omega
   ·exact qual_len h
  ·exact Nat.zero_le _
theorem type_len (ws:List TokV):∀ (r:Nat) (s:PSt),(typeP ws r s).1.length+6≤128 * 2 ^ r
 | 0,s=>by
  unfold typeP
  split
  ·simp
  ·have:=leaf_len ws s;omega
 | r+1,s=>by
  have ih:=type_len ws r
  have h2:2 ^ (r+1)=2 ^ r+2 ^ r:=by rw [Nat.pow_succ];omega
  have h1:1≤2 ^ r:=Nat.one_le_two_pow
  rw [h2]
  unfold typeP
  dsimp only
  split
  ·have:=ih (needP ws [60] (nextP s));simp [kList];omega
  ·split
   ·have:=ih (needP ws [60] (nextP s));simp [kSet];omega
   ·split
    ·have h3:=ih (needP ws [60] (nextP s))
     have h4:=ih (needP ws [44] (typeP ws r (needP ws [60] (nextP s))).2)
     simp [kMap];omega
    ·have:=leaf_len ws s;omega
theorem type_short (ws:List TokV) (r:Nat) (hr:r≤11) (s:PSt):((typeP ws r s).1.length:Int)≤270000:=by
 have h1:=type_len ws r s
 have h2:2 ^ r≤2 ^ 11:=Nat.pow_le_pow_right (by decide) hr
 have h3:(2:Nat) ^ 11=2048:=by decide
 rw [h3] at h2
 omega
def withP (ws:List TokV) (tp:PSt→List UInt8×PSt) (k:Nat) (s:PSt):List UInt8×PSt :=
 let a:=tp (needP ws [60] (nextP s))
 let b:=if k=13 then tp (needP ws [44] a.2) else ([],a.2)
 (showS (k:Int) [] a.1 b.1,needP ws [62] b.2)
def typeN (ws:List TokV):Nat→Nat→PSt→List UInt8×PSt
 | 0,_,s=>([],failP 6 s)
 | r+1,k,s=>withP ws (typeP ws r) k s
theorem show15 (a b:List UInt8):showS 15 [] a b=kList++60 :: a++[62]:=by simp [showS,partS,wordK,kList]
theorem show14 (a b:List UInt8):showS 14 [] a b=kSet++60 :: a++[62]:=by simp [showS,partS,wordK,kSet]
theorem show13 (a b:List UInt8):showS 13 [] a b=kMap++60 :: a++44 :: b++[62]:=by simp [showS,partS,wordK,kMap]
theorem typeP_eq (ws:List TokV) (r:Nat) (s:PSt):typeP ws r s=if isP ws kList s then typeN ws r 15 s else if isP ws kSet s then typeN ws r 14 s else if isP ws kMap s then typeN ws r 13 s else leafP ws s:=by
 cases r with
 | zero =>
  unfold typeP typeN
  dsimp only
  by_cases h1:isP ws kList s=true
  ·simp [h1]
  ·by_cases h2:isP ws kSet s=true
   ·simp [h1,h2]
   ·by_cases h3:isP ws kMap s=true
    ·simp [h1,h2,h3]
    ·simp [h1,h2,h3]
 | succ r =>
  unfold typeP typeN withP
  dsimp only
  by_cases h1:isP ws kList s=true
  ·rw [if_pos h1,if_pos h1,if_neg (by decide)];exact Prod.ext (show15 _ _).symm rfl
  ·rw [if_neg h1,if_neg h1]
   by_cases h2:isP ws kSet s=true
   ·rw [if_pos h2,if_pos h2,if_neg (by decide)];exact Prod.ext (show14 _ _).symm rfl
   ·rw [if_neg h2,if_neg h2]
    by_cases h3:isP ws kMap s=true
    ·rw [if_pos h3,if_pos h3,if_pos rfl];exact Prod.ext (show13 _ _).symm rfl
    ·rw [if_neg h3,if_neg h3]
def TypeC (b c:Nat) (A:Option Addr) (ws:List TokV) (r:Nat):Prop :=
 ∀ (w:World) (s:PSt),PC w b A c ws s→∀ (D:Nat),D+r=13→∀ (l:List UInt8) (s':PSt),typeP ws r s=(l,s') →
  Calls Tryz.prog 96 #[.pointer (some ⟨b,0,none⟩),.int .i64 (D:Int)] w fun e w'=>e = .returned (.string ⟨l.toArray⟩)∧PC w' b A c ws s'∧Oth b w w'
section
variable {w:World} {b c:Nat} {A:Option Addr} {ws:List TokV} {s:PSt}
set_option maxRecDepth 100000 in
set_option maxHeartbeats 3200000 in
theorem within_any' (r:Nat) (hT:∀ r',r=r'+1→TypeC b c A ws r') (h0:PC w b A c ws s) (k:Nat) (hk:k=13∨k=14∨k=15) (hk6:s.e=0→(ws.getD s.i tok0).k≠6) (D:Nat) (hD:D+r=13) (l:List UInt8) (s':PSt) (hr:typeN ws r k s=(l,s')) (hr12:r≤12) :
  Calls Tryz.prog 144 #[.pointer (some ⟨b,0,none⟩),.int .i64 (k:Int),.int .i64 (D:Int)] w fun e w'=>e = .returned (.string ⟨l.toArray⟩)∧PC w' b A c ws s'∧Oth b w w':=by
 have H:=Lib.hid h0
 have HT:=Lib.hid hT
 have HK6:=Lib.hid hk6
 cases r with
 | zero =>
  have b1:decide ((12:Int)<(D:Int))=true:=decide_eq_true (by omega)
  unfold typeN at hr
  simp only [Prod.mk.injEq] at hr
  obtain ⟨rfl,rfl⟩:=hr
  clear h0 hT hk6 hk hD
  go_enter Tryz.func144,Tryz.ntmps144
  go_wp2_with fail
  refine (fail_any H.out 6 (by decide) (by decide)).mono ?_;rintro e w1 ⟨rfl,hp1,ho1⟩
  go_wp2_with fail
  go_ret
  exact ⟨rfl,hp1,ho1⟩
 | succ r =>
  have b1:decide ((12:Int)<(D:Int))=false:=decide_eq_false (by omega)
  have HT2:Hid (TypeC b c A ws r):=HT.out r rfl
  have hD1:(D:Int)≤12:=by omega
  have HD:Hid (D+1+r=13):=by unfold Hid;omega
  have HR:Hid (withP ws (typeP ws r) k s=(l,s')):=hr
  have hlen:=type_short ws r (by omega)
  have HLEN:=Lib.hid hlen
  obtain ⟨⟨wk,wt,wn,wd,wp⟩,hT⟩:∃ T,Hid (wordP ws s=T):=⟨_,rfl⟩
  have HKB:Hid (k=13∨k=14∨k=15):=hk
  have hk17:(k:Int)≤15:=by omega
  clear h0 HT hk6 hr hlen hk hD
  go_enter Tryz.func144,Tryz.ntmps144
  go_wp2_with fail
  refine (next_any H.out HK6.out _ _ _ _ _ hT.out).mono ?_;rintro e w1 ⟨rfl,hp1,ho1⟩
  have HP1:=Lib.hid hp1
  have HO1:=Lib.hid ho1
  clear hp1 ho1
  go_wp2_with fail
  refine (need_any HP1.out _ [60] (Tx.of _) _ rfl).mono ?_;rintro e w2 ⟨rfl,hp2,ho2⟩
  have HP2:=Lib.hid hp2
  have HO2:=Lib.hid (HO1.out.trans ho2)
  clear hp2 ho2
  obtain ⟨⟨la,sa⟩,hA⟩:∃ a,Hid (typeP ws r (needP ws [60] (nextP s))=a):=⟨_,rfl⟩
  go_wp2_with fail
  refine (HT2.out w2 _ HP2.out (D+1) HD.out la sa hA.out).mono ?_;rintro e w3 ⟨rfl,hp3,ho3⟩
  have HP3:=Lib.hid hp3
  have HO3:=Lib.hid (HO2.out.trans ho3)
  have HLA:Hid ((la.length:Int)≤270000):=by have:=HLEN.out (needP ws [60] (nextP s));rw [hA.out] at this;exact this
  clear hp3 ho3
  by_cases h13:k=13
  ·subst h13
   obtain ⟨⟨lb,sb⟩,hB⟩:∃ a,Hid (typeP ws r (needP ws [44] sa)=a):=⟨_,rfl⟩
   have HLB:Hid ((lb.length:Int)≤270000):=by have:=HLEN.out (needP ws [44] sa);rw [hB.out] at this;exact this
   have hx:=HR.out
   unfold withP at hx
   dsimp only at hx
   rw [hA.out,if_pos rfl,hB.out] at hx
   simp only [Prod.mk.injEq] at hx
   obtain ⟨rfl,rfl⟩:=hx
   go_wp2_with fail
   refine (need_any HP3.out _ [44] (Tx.of _) _ rfl).mono ?_;rintro e w4 ⟨rfl,hp4,ho4⟩
   have HP4:=Lib.hid hp4
   have HO4:=Lib.hid (HO3.out.trans ho4)
   clear hp4 ho4
   go_wp2_with fail
   refine (HT2.out w4 _ HP4.out (D+1) HD.out lb sb hB.out).mono ?_;rintro e w5 ⟨rfl,hp5,ho5⟩
   have HP5:=Lib.hid hp5
   have HO5:=Lib.hid (HO4.out.trans ho5)
   clear hp5 ho5
   go_wp2_with fail
   refine (need_any HP5.out _ [62] (Tx.of _) _ rfl).mono ?_;rintro e w6 ⟨rfl,hp6,ho6⟩
   have HP6:=Lib.hid hp6
   have HO6:=Lib.hid (HO5.out.trans ho6)
   clear hp6 ho6
   go_wp2_with fail
   refine (show_any w6 13 _ _ _ [] la lb (Tx.of []) (Tx.of la) (Tx.of lb) (by decide) (by decide) HLA.out HLB.out HP6.out.tab).mono ?_;rintro e w7 ⟨rfl,hn7⟩
   go_wp2_with fail
   go_ret
   exact ⟨rfl,HP6.out.nx hn7,HO6.out.trans (Oth.nx hn7)⟩
  ·have b13:((k:Int) == 13)=false:=by rw [beq_eq_false_iff_ne];omega
   have hx:=HR.out
   unfold withP at hx
   dsimp only at hx
   rw [hA.out,if_neg h13] at hx
   simp only [Prod.mk.injEq] at hx
   obtain ⟨rfl,rfl⟩:=hx
   clear h13
   go_wp2_with fail
   refine (need_any HP3.out _ [62] (Tx.of _) _ rfl).mono ?_;rintro e w6 ⟨rfl,hp6,ho6⟩
   have HP6:=Lib.hid hp6
   have HO6:=Lib.hid (HO3.out.trans ho6)
   clear hp6 ho6
   go_wp2_with fail
   refine (show_any w6 k _ _ _ [] la [] (Tx.of []) (Tx.of la) (Tx.of []) (by omega) (by omega) HLA.out (by decide) HP6.out.tab).mono ?_;rintro e w7 ⟨rfl,hn7⟩
   go_wp2_with fail
   go_ret
   exact ⟨rfl,HP6.out.nx hn7,HO6.out.trans (Oth.nx hn7)⟩
set_option maxRecDepth 100000 in
set_option maxHeartbeats 3200000 in
theorem type_step (r:Nat) (hT:∀ r',r=r'+1→TypeC b c A ws r') (hr12:r≤12):TypeC b c A ws r:=by
 intro w s h0 D hD l s' hr
 have H:=Lib.hid h0
 have HT:=Lib.hid hT
 have HD:=Lib.hid hD
 rw [typeP_eq] at hr
 obtain ⟨B1,hB1⟩:∃ B,Hid (isP ws kList s=B):=⟨_,rfl⟩
 obtain ⟨B2,hB2⟩:∃ B,Hid (isP ws kSet s=B):=⟨_,rfl⟩
 obtain ⟨B3,hB3⟩:∃ B,Hid (isP ws kMap s=B):=⟨_,rfl⟩
 obtain ⟨B4,hB4⟩:∃ B,Hid (isP ws kByte s=B):=⟨_,rfl⟩
 obtain ⟨B5,hB5⟩:∃ B,Hid (atTypeP ws s=B):=⟨_,rfl⟩
 rw [hB1.out,hB2.out,hB3.out] at hr
 have HR:=Lib.hid hr
 obtain ⟨⟨wk,wt,wn,wd,wp⟩,hW⟩:∃ T,Hid (wordP ws s=T):=⟨_,rfl⟩
 have hDI:(D:Int)≤13:=by omega
 clear h0 hT hr hD
 go_enter Tryz.func96,Tryz.ntmps96
 go_wp2_with fail
 refine (is_any H.out _ kList (Tx.of _) B1 hB1.out).mono ?_;rintro e w1 ⟨rfl,hn1⟩
 have HN1:=Lib.hid hn1
 have HP1:=Lib.hid (H.out.nx hn1)
 clear hn1
 cases B1
 ·go_wp2_with fail
  refine (is_any HP1.out _ kSet (Tx.of _) B2 hB2.out).mono ?_;rintro e w2 ⟨rfl,hn2⟩
  have HN2:=Lib.hid (HN1.out.trans hn2)
  have HP2:=Lib.hid (HP1.out.nx hn2)
  clear hn2
  cases B2
  ·go_wp2_with fail
   refine (is_any HP2.out _ kMap (Tx.of _) B3 hB3.out).mono ?_;rintro e w3 ⟨rfl,hn3⟩
   have HN3:=Lib.hid (HN2.out.trans hn3)
   have HP3:=Lib.hid (HP2.out.nx hn3)
   clear hn3
   cases B3
   ·have HR2:Hid (leafP ws s=(l,s')):=HR.out
    go_wp2_with fail
    refine (take_any' HP3.out _ kByte (Tx.of _) B4 hB4.out).mono ?_;rintro e w4 ⟨rfl,hp4,ho4⟩
    have HP4:=Lib.hid hp4
    have HO4:=Lib.hid ((Oth.nx HN3.out).trans ho4)
    clear hp4 ho4
    cases B4
    ·have HP5:Hid (PC w4 b A c ws s):=HP4.out
     go_wp2_with fail
     refine (atType_any HP5.out B5 hB5.out).mono ?_;rintro e w5 ⟨rfl,hn5⟩
     have HO5:=Lib.hid (HO4.out.trans (Oth.nx hn5))
     have HP6:=Lib.hid (HP5.out.nx hn5)
     clear hn5
     have hx:=HR2.out
     unfold leafP at hx
     rw [hB4.out,hB5.out,hW.out] at hx
     cases B5
     ·simp at hx
      obtain ⟨rfl,rfl⟩:=hx
      go_wp2_with fail
      refine (fail_any HP6.out 2 (by decide) (by decide)).mono ?_;rintro e w6 ⟨rfl,hp6,ho6⟩
      go_wp2_with fail
      go_ret
      exact ⟨rfl,hp6,HO5.out.trans ho6⟩
     ·have HK:=Lib.hid (atType_k hB5.out)
      simp at hx
      obtain ⟨rfl,rfl⟩:=hx
      have F1:∀ w1,(Instr.field 92 (.agg #[.int .i64 (wk:Int),.string ⟨wt.toArray⟩,.int .i64 wn,.int .u64 (wd:Int),.int .i64 (wp:Int)]) 1).run Tryz.prog w1 = .ok (.string ⟨wt.toArray⟩) w1:=fun w1=>(tok_field _ _ _ _ _ w1).2.1
      go_wp2_with fail
      refine (next_any HP6.out HK.out _ _ _ _ _ hW.out).mono ?_;rintro e w6 ⟨rfl,hp6,ho6⟩
      go_wp2_with fail
      go_ret
      exact ⟨rfl,hp6,HO5.out.trans ho6⟩
    ·have hx:=HR2.out
     unfold leafP at hx
     rw [hB4.out] at hx
     simp at hx
     obtain ⟨rfl,rfl⟩:=hx
     go_wp2_with fail
     refine (show_any w4 3 _ _ _ [] [] [] (Tx.of []) (Tx.of []) (Tx.of []) (by decide) (by decide) (by decide) (by decide) HP4.out.tab).mono ?_;rintro e w5 ⟨rfl,hn5⟩
     go_wp2_with fail
     go_ret
     exact ⟨rfl,HP4.out.nx hn5,HO4.out.trans (Oth.nx hn5)⟩
   ·have HK:=Lib.hid (is_k hB3.out)
    have HR2:Hid (typeN ws r 13 s=(l,s')):=HR.out
    go_wp2_with fail
    refine (within_any' r HT.out HP3.out 13 (.inl rfl) HK.out D HD.out l s' HR2.out hr12).mono ?_;rintro e w4 ⟨rfl,hp4,ho4⟩
    go_wp2_with fail
    go_ret
    exact ⟨rfl,hp4,(Oth.nx HN3.out).trans ho4⟩
  ·have HK:=Lib.hid (is_k hB2.out)
   have HR2:Hid (typeN ws r 14 s=(l,s')):=HR.out
   go_wp2_with fail
   refine (within_any' r HT.out HP2.out 14 (.inr (.inl rfl)) HK.out D HD.out l s' HR2.out hr12).mono ?_;rintro e w4 ⟨rfl,hp4,ho4⟩
   go_wp2_with fail
   go_ret
   exact ⟨rfl,hp4,(Oth.nx HN2.out).trans ho4⟩
 ·have HK:=Lib.hid (is_k hB1.out)
  have HR2:Hid (typeN ws r 15 s=(l,s')):=HR.out
  go_wp2_with fail
  refine (within_any' r HT.out HP1.out 15 (.inr (.inr rfl)) HK.out D HD.out l s' HR2.out hr12).mono ?_;rintro e w4 ⟨rfl,hp4,ho4⟩
  go_wp2_with fail
  go_ret
  exact ⟨rfl,hp4,(Oth.nx HN1.out).trans ho4⟩
theorem type_all:∀ (r:Nat),r≤12→TypeC b c A ws r
 | 0,_=>type_step 0 (fun _ h=>by cases h) (by decide)
 | r+1,h=>type_step (r+1) (fun r' e=>by cases e;exact type_all r (by omega)) h
theorem type_any (h0:PC w b A c ws s) (l:List UInt8) (s':PSt) (hr:typeP ws 12 s=(l,s')) :
  Calls Tryz.prog 96 #[.pointer (some ⟨b,0,none⟩),.int .i64 1] w fun e w'=>e = .returned (.string ⟨l.toArray⟩)∧PC w' b A c ws s'∧Oth b w w' :=
 type_all 12 (by decide) w s h0 1 (by decide) l s' hr
end
end Go.Proofs.YtpbjkgpdkopgmaaGreatDoor
namespace Go.Proofs.YtpbjkgpdkopgmaaGreatDoor
open Go.RowKit
def Stays (b:Nat) (E:World→Prop):Prop:=∀ w w',E w→Oth b w w'→E w'
def AtC (b c:Nat) (A:Option Addr) (ws:List TokV) (E:World→Prop) (fn:Nat) (args:Array Value) (p:PSt→Bool):Prop :=
 ∀ (w:World) (s:PSt),PC w b A c ws s→E w→∀ B,p s=B→Calls Tryz.prog fn args w fun e w'=>e = .returned (.bool B)∧Nx w w'
def ReadC {α β:Type} (f:α→Value) (R:World→(Nat→Prop)→α→β→Prop) (b c:Nat) (A:Option Addr) (ws:List TokV) (E:World→Prop) (fn:Nat) (args:Array Value) (p:PSt→Bool) (rd:PSt→β×PSt):Prop :=
 ∀ (w:World) (s:PSt),PC w b A c ws s→E w→p s=true→∀ y s',rd s=(y,s')→Calls Tryz.prog fn args w fun e w'=>∃ x,e = .returned (f x)∧R w' (Fm w.heap.size) x y∧PC w' b A c ws s'∧Oth b w w'
def Prog {β:Type} (ws:List TokV) (p:PSt→Bool) (rd:PSt→β×PSt):Prop:=∀ s,s.i<ws.length→p s=true→s.e=0∧((rd s).2.e≠0∨s.i<(rd s).2.i)
theorem left_step {ws:List TokV} {s s':PSt} (hl:s.i<ws.length) (hw:ws.length≤2001) (he:s.e=0) (h:s'.e≠0∨s.i<s'.i):leftN s'<leftN s:=by
 unfold leftN
 rw [if_pos he]
 split
 ·omega
 ·omega
theorem left_next (s:PSt):leftN (nextP s)≤leftN s:=by
 unfold leftN nextP
 by_cases h:s.e=0
 ·simp [h];omega
 ·simp [h]
theorem left_sep (ws:List TokV) (s:PSt):leftN (sepP ws s)≤leftN s:=by
 unfold sepP takeP
 repeat' split
 all_goals first
  | exact left_next s
  | exact Nat.le_refl _
theorem fail_ne (k:Nat) (hk:k≠0) (s:PSt):(failP k s).e≠0:=by
 unfold failP
 split
 ·rename_i h;exact h
 ·exact hk
theorem left_add {β:Type} {ws:List TokV} {p:PSt→Bool} {rd:PSt→β×PSt} (hp:Prog ws p rd) (most:Nat) (acc:List β) {s:PSt} (hl:s.i<ws.length) (hw:ws.length≤2001) (h:p s=true):leftN (addP most rd acc s).2<leftN s:=by
 have h1:=hp s hl h
 unfold addP
 split
 ·exact left_step hl hw h1.1 (.inl (fail_ne 4 (by decide) s))
 ·exact left_step hl hw h1.1 h1.2
theorem elems_more {β:Type} (ws:List TokV) (p:PSt→Bool) (most:Nat) (rd:PSt→β×PSt) (n:Nat) (acc:List β) (s:PSt) (h:p s=true) :
  elemsP ws p most rd (n+1) acc s=elemsP ws p most rd n (addP most rd acc s).1 (sepP ws (addP most rd acc s).2):=by
 conv=>lhs;unfold elemsP
 rw [if_pos h]
theorem elems_done {β:Type} (ws:List TokV) (p:PSt→Bool) (most:Nat) (rd:PSt→β×PSt) (n:Nat) (acc:List β) (s:PSt) (h:p s=false):elemsP ws p most rd n acc s=(acc,s):=by
 cases n with
 | zero=>rfl
 | succ n=>unfold elemsP;rw [h];rfl
theorem add_len {β:Type} (most:Nat) (rd:PSt→β×PSt) (acc:List β) (s:PSt) (h:acc.length≤most):(addP most rd acc s).1.length≤most:=by
 unfold addP
 split
 ·exact h
 ·simp;omega
theorem makeFunc_run (fn:Fn) (first cap:Array Value) (w:World):(Instr.makeFunc fn first cap).run Tryz.prog w = .ok (.func fn first cap) w:=rfl
theorem PC.fr {w w':World} {b c B:Nat} {A:Option Addr} {ws:List TokV} {s:PSt} {v v':Value} (h:PC w b A c ws s) (hf:Fr b v w v' w') (hv:∀ g,v.ownBlock=some g→B≤g) (hb:b<B) (hw:∀ k,k<w.heap.size→v.ownBlock≠some k→w'.heap[k]? = w.heap[k]?):PC w' b A c ws s:=by
 have h1:=h.b1
 have h2:=h.b2
 have hv1:∀ g,g≤b→v.ownBlock≠some g:=fun g hg e=>by have:=hv g e;omega
 refine ⟨⟨h.cur.1,(hw b h.cur.lt (hv1 b (Nat.le_refl _))).trans h.cur.2⟩,fun h0=>?_,h.ab,h.le,hf.tab h.tab (Nat.ne_of_lt h1) (hv1 _ (Nat.le_of_lt h1)),hf.maxC h.mx (Nat.ne_of_lt h2) (hv1 _ (Nat.le_of_lt h2)),h.b1,h.b2,h.fin,h.lt,h.el⟩
 obtain ⟨g,e,hg,hc⟩:=h.rd h0
 refine ⟨g,e,Nat.lt_of_lt_of_le hg hf.size,fun i hi j hj=>?_⟩
 rw [← hc i hi j hj]
 have hgb:=h.ab g e
 unfold World.cell?
 simp only
 rw [hf.block g hg (by omega) (hv1 g (by omega))]
end Go.Proofs.YtpbjkgpdkopgmaaGreatDoor
