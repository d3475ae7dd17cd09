/- The document's play: constants that may fit a type. The text of types: as a tree, and as a function of its bytes. Plain lemmas. A file of definitions, read off its words: as a function. Rows of structs that the call owns, of any type: what the call reads and appends. Rows of structs that the call owns last where one block alone changed. How constants, fields, methods, definitions lie in memory. Plain lemmas. What lies where a cursor's block and a list's own one alone changed. Plain lemmas. -/
import Derived.Test.YteclejplbphkpaaGreatG17
import Derived.Test.YteclejplbphkpaaGreatG13
import Derived.Test.YteclejplbphkpaaGreatG01
set_option linter.unusedVariables false
set_option linter.unusedSimpArgs false
set_option linter.unnecessarySimpa false
namespace Go.Proofs.YteclejplbphkpaaGreat
open Go.RowKit
theorem plCells5 {w:World} {B g:Nat} {T:TypeId} {a0 a1 a2 a3 a4:Value} (h:Blk w B g #[a0,a1,a2,a3,a4] T) :
  w.cell? ⟨g,0,none⟩=some a0∧w.cell? ⟨g,1,none⟩=some a1∧w.cell? ⟨g,2,none⟩=some a2∧w.cell? ⟨g,3,none⟩=some a3∧w.cell? ⟨g,4,none⟩=some a4 ∧
  w.frozen? ⟨g,0,none⟩=false∧w.frozen? ⟨g,1,none⟩=false∧w.frozen? ⟨g,2,none⟩=false∧w.frozen? ⟨g,3,none⟩=false∧w.frozen? ⟨g,4,none⟩=false :=
 ⟨h.cell 0,h.cell 1,h.cell 2,h.cell 3,h.cell 4,h.free 0,h.free 1,h.free 2,h.free 3,h.free 4⟩
structure ConA where
 k:Nat
 n:Int
 d:Nat
 s:List UInt8
def conC (c:ConA) (l:Value):Array Value:=#[.int .i64 (c.k:Nat),.int .i64 c.n,.int .u64 (c.d:Nat),.string ⟨c.s.toArray⟩,l]
def initL:List (List UInt8):=[[],[97],[120,32,121],[105,116,39,115]]
def boolL:List (List UInt8):=[[116,114,117,101],[102,97,108,115,101]]
def initP (t pre r:List UInt8):ConA×List UInt8 :=
 if (t == [105,51,50]) || (t == [105,54,52]) || (t == [105,49,54]) || (t == [105,56]) then (⟨1,((numP 200 r).1:Int) - 72,0,[]⟩,(numP 200 r).2)
 else if (t == [100,111,117,98,108,101]) then (⟨2,0,(numP 255 r).1 * 36028797018963968+(numP 255 (numP 255 r).2).1 * 1099511627776,[]⟩,(numP 255 (numP 255 r).2).2)
 else if (t == [115,116,114,105,110,103]) || (t == [98,105,110,97,114,121]) then (⟨3,0,0,initL.getD (numP 4 r).1 []⟩,(numP 4 r).2)
 else if (t == [98,111,111,108]) then (⟨4,0,0,boolL.getD (numP 2 r).1 []⟩,(numP 2 r).2)
 else if (t == pre++[69]) then (⟨4,0,0,pre++[69,46,65]⟩,r)
 else if (t == pre++[84]) then (⟨4,0,0,pre++[67]⟩,r)
 else (⟨5,0,0,[]⟩,r)
theorem or_parts (k m:Nat) (hk:k<255) (hm:m<255):bits .or .u64 ((k:Int) * 36028797018963968) ((m:Int) * 1099511627776)=((k * 36028797018963968+m * 1099511627776:Nat):Int):=by
 have h:=bits_or_u64_nat (k * 36028797018963968) (m * 1099511627776) (by omega) (by omega)
 have e:k * 36028797018963968 ||| m * 1099511627776=k * 36028797018963968+m * 1099511627776:=by
  have h2:=Nat.two_pow_add_eq_or_of_lt (i:=55) (b:=m * 1099511627776) (by omega) k
  rw [show (2:Nat) ^ 55=36028797018963968 by decide] at h2
  rw [Nat.mul_comm k,← h2]
 rw [e] at h
 rw [← h]
 rfl
set_option maxRecDepth 100000 in
set_option maxHeartbeats 25600000 in
theorem init_any (b:Nat) (ut u:ByteArray) (t pre:List UInt8) (r:List UInt8) (w:World) (ht:Tx ut t) (hu:Tx u pre) (hpre:(pre.length:Int)≤1000) (htl:(t.length:Int)≤10000) (hP:Pk w b r) :
  Calls Tryz.prog 48 #[.pointer (some ⟨b,0,none⟩),.string ut,.string u] w fun e w'=>e = .returned (.agg (conC (initP t pre r).1 (.slice none 0 0)))∧Pk w' b (initP t pre r).2∧Oth b w w':=by
 have hut:ut.toList=t:=ht.toL
 have huu:u.toList=pre:=hu.toL
 have hsu:(u.size:Int)≤1000:=by rw [hu.size];exact hpre
 have HU:=Lib.hid hu
 obtain ⟨uE,huE⟩:∃ x,u++⟨#[69]⟩=x:=⟨_,rfl⟩
 obtain ⟨uT,huT⟩:∃ x,u++⟨#[84]⟩=x:=⟨_,rfl⟩
 have huEl:uE.toList=pre++[69]:=by rw [← huE];exact (hu.cat (Tx.of [69])).toL
 have huTl:uT.toList=pre++[84]:=by rw [← huT];exact (hu.cat (Tx.of [84])).toL
 obtain ⟨g,hg⟩:∃ g,w.heap.size=g:=⟨_,rfl⟩
 have hgb:b<g:=by rw [← hg];exact hP.lt
 have hgw:w.heap.size≤g:=by omega
 have hT0:=Blk.new w #[.int .i64 0,.int .i64 0,.int .u64 0,.string ⟨#[]⟩,.slice none 0 0] 44
 rw [hg] at hT0
 have HP0:Hid (Pk (w.alloc (.cells #[.int .i64 0,.int .i64 0,.int .u64 0,.string ⟨#[]⟩,.slice none 0 0] 44)) b r):=hP.nx (nx0 _ _)
 have HO0:Hid (Oth b w (w.alloc (.cells #[.int .i64 0,.int .i64 0,.int .u64 0,.string ⟨#[]⟩,.slice none 0 0] 44))):=Oth.nx (nx0 _ _)
 obtain ⟨R,hR⟩:∃ R,Hid (initP t pre r=R):=⟨_,rfl⟩
 have hr0:=hR.out
 rw [hR.out]
 unfold initP at hr0
 clear ht hu hP
 go_enter Tryz.func48,Tryz.ntmps48
 go_upto_region 1 with fail
 generalize hW1:World.alloc _ _=w1 at *
 clear hW1
 have fin:∀ (w2:World) (v0 v1 v2 v3 v4:Value) (r2:List UInt8),Blk w2 g g #[.int .i64 0,.int .i64 0,.int .u64 0,.string ⟨#[]⟩,.slice none 0 0] 44→Pk w2 b r2→Oth b w w2 →
   Blk (((((w2.setCell ⟨g,0,none⟩ v0).setCell ⟨g,1,none⟩ v1).setCell ⟨g,2,none⟩ v2).setCell ⟨g,3,none⟩ v3).setCell ⟨g,4,none⟩ v4) g g #[v0,v1,v2,v3,v4] 44 ∧
   Pk (((((w2.setCell ⟨g,0,none⟩ v0).setCell ⟨g,1,none⟩ v1).setCell ⟨g,2,none⟩ v2).setCell ⟨g,3,none⟩ v3).setCell ⟨g,4,none⟩ v4) b r2 ∧
   Oth b w (((((w2.setCell ⟨g,0,none⟩ v0).setCell ⟨g,1,none⟩ v1).setCell ⟨g,2,none⟩ v2).setCell ⟨g,3,none⟩ v3).setCell ⟨g,4,none⟩ v4):=by
  intro w2 v0 v1 v2 v3 v4 r2 h1 h2 h3
  exact ⟨h1.put5,h2.put5 hgb,h3.put5 hgw⟩
 have FIN:=Lib.hid fin
 have HT0:=Lib.hid hT0
 clear fin hT0
 cases b1:(t == [105,51,50])
 ·skip
  cases b2:(t == [105,54,52])
  ·skip
   cases b3:(t == [105,49,54])
   ·skip
    cases b4:(t == [105,56])
    ·skip
     cases b5:(t == [100,111,117,98,108,101])
     ·skip
      cases b6:(t == [115,116,114,105,110,103])
      ·skip
       cases b7:(t == [98,105,110,97,114,121])
       ·skip
        cases b8:(t == [98,111,111,108])
        ·skip
         cases b9:(t == pre++[69])
         ·skip
          cases b10:(t == pre++[84])
          ·skip
           simp only [b1,b2,b3,b4,b5,b6,b7,b8,b9,b10,Bool.true_or,Bool.or_true,Bool.or_false,Bool.false_or,Bool.or_self,if_true,if_false,Bool.false_eq_true] at hr0
           obtain ⟨t0,t1,t2,t3,t4,z0,z1,z2,z3,z4⟩:=plCells5 HT0.out
           go_wp2_with fail
           obtain ⟨q1,q2,q3⟩:=FIN.out w1 _ _ _ _ _ _ HT0.out HP0.out HO0.out
           refine bodyPost_ret (results_cell_row rfl _ _ g _ _ _ _ rfl q1.2 Tryz.underlying44 rfl (by kernel_rfl)) rfl ?_
           rw [← hr0]
           exact ⟨rfl,q2,q3⟩
          ·skip
           simp only [b1,b2,b3,b4,b5,b6,b7,b8,b9,b10,Bool.true_or,Bool.or_true,Bool.or_false,Bool.false_or,Bool.or_self,if_true,if_false,Bool.false_eq_true] at hr0
           obtain ⟨t0,t1,t2,t3,t4,z0,z1,z2,z3,z4⟩:=plCells5 HT0.out
           go_wp2_with fail
           obtain ⟨q1,q2,q3⟩:=FIN.out w1 _ _ _ _ _ _ HT0.out HP0.out HO0.out
           refine bodyPost_ret (results_cell_row rfl _ _ g _ _ _ _ rfl q1.2 Tryz.underlying44 rfl (by kernel_rfl)) rfl ?_
           rw [← hr0]
           exact ⟨by rw [(HU.out.cat (Tx.of [67])).eq];rfl,q2,q3⟩
         ·skip
          simp only [b1,b2,b3,b4,b5,b6,b7,b8,b9,Bool.true_or,Bool.or_true,Bool.or_false,Bool.false_or,Bool.or_self,if_true,if_false,Bool.false_eq_true] at hr0
          obtain ⟨t0,t1,t2,t3,t4,z0,z1,z2,z3,z4⟩:=plCells5 HT0.out
          go_wp2_with fail
          obtain ⟨q1,q2,q3⟩:=FIN.out w1 _ _ _ _ _ _ HT0.out HP0.out HO0.out
          refine bodyPost_ret (results_cell_row rfl _ _ g _ _ _ _ rfl q1.2 Tryz.underlying44 rfl (by kernel_rfl)) rfl ?_
          rw [← hr0]
          exact ⟨by rw [(HU.out.cat (Tx.of [69,46,65])).eq];rfl,q2,q3⟩
        ·skip
         simp only [b1,b2,b3,b4,b5,b6,b7,b8,Bool.true_or,Bool.or_true,Bool.or_false,Bool.false_or,Bool.or_self,if_true,if_false,Bool.false_eq_true] at hr0
         obtain ⟨g1,hg1⟩:∃ g1,w1.heap.size=g1:=⟨_,rfl⟩
         have hg11:g<g1:=by rw [← hg1];exact HT0.out.lt
         have hB0:=Blk.new w1 #[.string ⟨#[116,114,117,101]⟩,.string ⟨#[102,97,108,115,101]⟩] 9
         rw [hg1] at hB0
         have hO1:Oth b w (w1.alloc (.cells #[.string ⟨#[116,114,117,101]⟩,.string ⟨#[102,97,108,115,101]⟩] 9)):=HO0.out.trans (Oth.nx (nx0 _ _))
         have hT1:Blk (w1.alloc (.cells #[.string ⟨#[116,114,117,101]⟩,.string ⟨#[102,97,108,115,101]⟩] 9)) g g #[.int .i64 0,.int .i64 0,.int .u64 0,.string ⟨#[]⟩,.slice none 0 0] 44:=HT0.out.alloc _
         go_wp2_with fail
         refine (num_any b 2 r _ (HP0.out.nx (nx0 _ _)) (by decide) (by decide)).mono ?_;rintro e w2 ⟨rfl,hP2,hO2⟩
         have hB2:=hO2.blk hB0 (by omega)
         have hT2:=hO2.blk hT1 (by omega)
         have htx:Txs [⟨#[116,114,117,101]⟩,⟨#[102,97,108,115,101]⟩] boolL:=rfl
         have hkn:=numP_lt 2 (by decide) r
         obtain ⟨h1,h2⟩:=htx.at_ (numP 2 r).1 hkn
         have hc:=(hB2.cell (numP 2 r).1).trans (row_at _ _ h1)
         have HO2:=Lib.hid (hO1.trans hO2)
         have HT2:=Lib.hid hT2
         have HP2:=Lib.hid hP2
         generalize (boolL.getD (numP 2 r).1 [])=T at *
         generalize numP 2 r=N at *
         obtain ⟨k,r2⟩:=N
         dsimp only at hkn h1 h2 hc hr0 HP2 ⊢
         obtain ⟨v,hv⟩:∃ v,([⟨#[116,114,117,101]⟩,⟨#[102,97,108,115,101]⟩]:List ByteArray)[k]'h1=v:=⟨_,rfl⟩
         rw [hv] at hc h2
         have H2:=Lib.hid h2
         have hk:(k:Int)<2:=by omega
         clear hv h2 htx hB0 hO1 hB2 hO2 hP2 hT1 hT2
         obtain ⟨t0,t1,t2,t3,t4,z0,z1,z2,z3,z4⟩:=plCells5 HT2.out
         go_wp2_with fail
         obtain ⟨q1,q2,q3⟩:=FIN.out w2 _ _ _ _ _ _ HT2.out HP2.out HO2.out
         refine bodyPost_ret (results_cell_row rfl _ _ g _ _ _ _ rfl q1.2 Tryz.underlying44 rfl (by kernel_rfl)) rfl ?_
         rw [← hr0]
         exact ⟨by rw [H2.out.eq];rfl,q2,q3⟩
       ·skip
        simp only [b1,b2,b3,b4,b5,b6,b7,Bool.true_or,Bool.or_true,Bool.or_false,Bool.false_or,Bool.or_self,if_true,if_false,Bool.false_eq_true] at hr0
        obtain ⟨g1,hg1⟩:∃ g1,w1.heap.size=g1:=⟨_,rfl⟩
        have hg11:g<g1:=by rw [← hg1];exact HT0.out.lt
        have hB0:=Blk.new w1 #[.string ⟨#[]⟩,.string ⟨#[97]⟩,.string ⟨#[120,32,121]⟩,.string ⟨#[105,116,39,115]⟩] 9
        rw [hg1] at hB0
        have hO1:Oth b w (w1.alloc (.cells #[.string ⟨#[]⟩,.string ⟨#[97]⟩,.string ⟨#[120,32,121]⟩,.string ⟨#[105,116,39,115]⟩] 9)):=HO0.out.trans (Oth.nx (nx0 _ _))
        have hT1:Blk (w1.alloc (.cells #[.string ⟨#[]⟩,.string ⟨#[97]⟩,.string ⟨#[120,32,121]⟩,.string ⟨#[105,116,39,115]⟩] 9)) g g #[.int .i64 0,.int .i64 0,.int .u64 0,.string ⟨#[]⟩,.slice none 0 0] 44:=HT0.out.alloc _
        go_wp2_with fail
        refine (num_any b 4 r _ (HP0.out.nx (nx0 _ _)) (by decide) (by decide)).mono ?_;rintro e w2 ⟨rfl,hP2,hO2⟩
        have hB2:=hO2.blk hB0 (by omega)
        have hT2:=hO2.blk hT1 (by omega)
        have htx:Txs [⟨#[]⟩,⟨#[97]⟩,⟨#[120,32,121]⟩,⟨#[105,116,39,115]⟩] initL:=rfl
        have hkn:=numP_lt 4 (by decide) r
        obtain ⟨h1,h2⟩:=htx.at_ (numP 4 r).1 hkn
        have hc:=(hB2.cell (numP 4 r).1).trans (row_at _ _ h1)
        have HO2:=Lib.hid (hO1.trans hO2)
        have HT2:=Lib.hid hT2
        have HP2:=Lib.hid hP2
        generalize (initL.getD (numP 4 r).1 [])=T at *
        generalize numP 4 r=N at *
        obtain ⟨k,r2⟩:=N
        dsimp only at hkn h1 h2 hc hr0 HP2 ⊢
        obtain ⟨v,hv⟩:∃ v,([⟨#[]⟩,⟨#[97]⟩,⟨#[120,32,121]⟩,⟨#[105,116,39,115]⟩]:List ByteArray)[k]'h1=v:=⟨_,rfl⟩
        rw [hv] at hc h2
        have H2:=Lib.hid h2
        have hk:(k:Int)<4:=by omega
        clear hv h2 htx hB0 hO1 hB2 hO2 hP2 hT1 hT2
        obtain ⟨t0,t1,t2,t3,t4,z0,z1,z2,z3,z4⟩:=plCells5 HT2.out
        go_wp2_with fail
        obtain ⟨q1,q2,q3⟩:=FIN.out w2 _ _ _ _ _ _ HT2.out HP2.out HO2.out
        refine bodyPost_ret (results_cell_row rfl _ _ g _ _ _ _ rfl q1.2 Tryz.underlying44 rfl (by kernel_rfl)) rfl ?_
        rw [← hr0]
        exact ⟨by rw [H2.out.eq];rfl,q2,q3⟩
      ·skip
       simp only [b1,b2,b3,b4,b5,b6,Bool.true_or,Bool.or_true,Bool.or_false,Bool.false_or,Bool.or_self,if_true,if_false,Bool.false_eq_true] at hr0
       obtain ⟨g1,hg1⟩:∃ g1,w1.heap.size=g1:=⟨_,rfl⟩
       have hg11:g<g1:=by rw [← hg1];exact HT0.out.lt
       have hB0:=Blk.new w1 #[.string ⟨#[]⟩,.string ⟨#[97]⟩,.string ⟨#[120,32,121]⟩,.string ⟨#[105,116,39,115]⟩] 9
       rw [hg1] at hB0
       have hO1:Oth b w (w1.alloc (.cells #[.string ⟨#[]⟩,.string ⟨#[97]⟩,.string ⟨#[120,32,121]⟩,.string ⟨#[105,116,39,115]⟩] 9)):=HO0.out.trans (Oth.nx (nx0 _ _))
       have hT1:Blk (w1.alloc (.cells #[.string ⟨#[]⟩,.string ⟨#[97]⟩,.string ⟨#[120,32,121]⟩,.string ⟨#[105,116,39,115]⟩] 9)) g g #[.int .i64 0,.int .i64 0,.int .u64 0,.string ⟨#[]⟩,.slice none 0 0] 44:=HT0.out.alloc _
       go_wp2_with fail
       refine (num_any b 4 r _ (HP0.out.nx (nx0 _ _)) (by decide) (by decide)).mono ?_;rintro e w2 ⟨rfl,hP2,hO2⟩
       have hB2:=hO2.blk hB0 (by omega)
       have hT2:=hO2.blk hT1 (by omega)
       have htx:Txs [⟨#[]⟩,⟨#[97]⟩,⟨#[120,32,121]⟩,⟨#[105,116,39,115]⟩] initL:=rfl
       have hkn:=numP_lt 4 (by decide) r
       obtain ⟨h1,h2⟩:=htx.at_ (numP 4 r).1 hkn
       have hc:=(hB2.cell (numP 4 r).1).trans (row_at _ _ h1)
       have HO2:=Lib.hid (hO1.trans hO2)
       have HT2:=Lib.hid hT2
       have HP2:=Lib.hid hP2
       generalize (initL.getD (numP 4 r).1 [])=T at *
       generalize numP 4 r=N at *
       obtain ⟨k,r2⟩:=N
       dsimp only at hkn h1 h2 hc hr0 HP2 ⊢
       obtain ⟨v,hv⟩:∃ v,([⟨#[]⟩,⟨#[97]⟩,⟨#[120,32,121]⟩,⟨#[105,116,39,115]⟩]:List ByteArray)[k]'h1=v:=⟨_,rfl⟩
       rw [hv] at hc h2
       have H2:=Lib.hid h2
       have hk:(k:Int)<4:=by omega
       clear hv h2 htx hB0 hO1 hB2 hO2 hP2 hT1 hT2
       obtain ⟨t0,t1,t2,t3,t4,z0,z1,z2,z3,z4⟩:=plCells5 HT2.out
       go_wp2_with fail
       obtain ⟨q1,q2,q3⟩:=FIN.out w2 _ _ _ _ _ _ HT2.out HP2.out HO2.out
       refine bodyPost_ret (results_cell_row rfl _ _ g _ _ _ _ rfl q1.2 Tryz.underlying44 rfl (by kernel_rfl)) rfl ?_
       rw [← hr0]
       exact ⟨by rw [H2.out.eq];rfl,q2,q3⟩
     ·skip
      simp only [b1,b2,b3,b4,b5,Bool.true_or,Bool.or_true,Bool.or_false,Bool.false_or,Bool.or_self,if_true,if_false,Bool.false_eq_true] at hr0
      go_wp2_with fail
      refine (num_any b 255 r _ HP0.out (by decide) (by decide)).mono ?_;rintro e w2 ⟨rfl,hP2,hO2⟩
      have hk:=numP_lt 255 (by decide) r
      have hT2:=hO2.blk HT0.out (by omega)
      generalize numP 255 r=N at *
      obtain ⟨k,r2⟩:=N
      dsimp only at hk hP2 hr0 ⊢
      have hk2:(k:Int)<255:=by omega
      go_wp2_with fail
      refine (num_any b 255 r2 _ hP2 (by decide) (by decide)).mono ?_;rintro e w3 ⟨rfl,hP3,hO3⟩
      have hm:=numP_lt 255 (by decide) r2
      have hT3:=hO3.blk hT2 (by omega)
      generalize numP 255 r2=N at *
      obtain ⟨m,r3⟩:=N
      dsimp only at hm hP3 hr0 ⊢
      have hm2:(m:Int)<255:=by omega
      have HP3:=Lib.hid hP3
      have HO3:=Lib.hid ((HO0.out.trans hO2).trans hO3)
      have HT3:=Lib.hid hT3
      clear hP2 hO2 hT2 hP3 hO3 hT3
      obtain ⟨t0,t1,t2,t3,t4,z0,z1,z2,z3,z4⟩:=plCells5 HT3.out
      go_wp2_with fail
      obtain ⟨q1,q2,q3⟩:=FIN.out w3 _ _ _ _ _ _ HT3.out HP3.out HO3.out
      refine bodyPost_ret (results_cell_row rfl _ _ g _ _ _ _ rfl q1.2 Tryz.underlying44 rfl (by kernel_rfl)) rfl ?_
      rw [← hr0]
      refine ⟨?_,q2,q3⟩
      rw [or_parts k m hk hm];rfl
    ·skip
     simp only [b1,b2,b3,b4,Bool.true_or,Bool.or_true,Bool.or_false,Bool.false_or,Bool.or_self,if_true,if_false,Bool.false_eq_true] at hr0
     go_wp2_with fail
     refine (num_any b 200 r _ HP0.out (by decide) (by decide)).mono ?_;rintro e w2 ⟨rfl,hP2,hO2⟩
     have hT2:=hO2.blk HT0.out (by omega)
     have hk:=numP_lt 200 (by decide) r
     generalize numP 200 r=N at *
     obtain ⟨k,r2⟩:=N
     dsimp only at hk hP2 hr0 ⊢
     have hk2:(k:Int)<200:=by omega
     have HP2:=Lib.hid hP2
     have HO2:=Lib.hid (HO0.out.trans hO2)
     have HT2:=Lib.hid hT2
     clear hP2 hO2 hT2
     obtain ⟨t0,t1,t2,t3,t4,z0,z1,z2,z3,z4⟩:=plCells5 HT2.out
     go_wp2_with fail
     obtain ⟨q1,q2,q3⟩:=FIN.out w2 _ _ _ _ _ _ HT2.out HP2.out HO2.out
     refine bodyPost_ret (results_cell_row rfl _ _ g _ _ _ _ rfl q1.2 Tryz.underlying44 rfl (by kernel_rfl)) rfl ?_
     rw [← hr0]
     exact ⟨rfl,q2,q3⟩
   ·skip
    simp only [b1,b2,b3,Bool.true_or,Bool.or_true,Bool.or_false,Bool.false_or,Bool.or_self,if_true,if_false,Bool.false_eq_true] at hr0
    go_wp2_with fail
    refine (num_any b 200 r _ HP0.out (by decide) (by decide)).mono ?_;rintro e w2 ⟨rfl,hP2,hO2⟩
    have hT2:=hO2.blk HT0.out (by omega)
    have hk:=numP_lt 200 (by decide) r
    generalize numP 200 r=N at *
    obtain ⟨k,r2⟩:=N
    dsimp only at hk hP2 hr0 ⊢
    have hk2:(k:Int)<200:=by omega
    have HP2:=Lib.hid hP2
    have HO2:=Lib.hid (HO0.out.trans hO2)
    have HT2:=Lib.hid hT2
    clear hP2 hO2 hT2
    obtain ⟨t0,t1,t2,t3,t4,z0,z1,z2,z3,z4⟩:=plCells5 HT2.out
    go_wp2_with fail
    obtain ⟨q1,q2,q3⟩:=FIN.out w2 _ _ _ _ _ _ HT2.out HP2.out HO2.out
    refine bodyPost_ret (results_cell_row rfl _ _ g _ _ _ _ rfl q1.2 Tryz.underlying44 rfl (by kernel_rfl)) rfl ?_
    rw [← hr0]
    exact ⟨rfl,q2,q3⟩
  ·skip
   simp only [b1,b2,Bool.true_or,Bool.or_true,Bool.or_false,Bool.false_or,Bool.or_self,if_true,if_false,Bool.false_eq_true] at hr0
   go_wp2_with fail
   refine (num_any b 200 r _ HP0.out (by decide) (by decide)).mono ?_;rintro e w2 ⟨rfl,hP2,hO2⟩
   have hT2:=hO2.blk HT0.out (by omega)
   have hk:=numP_lt 200 (by decide) r
   generalize numP 200 r=N at *
   obtain ⟨k,r2⟩:=N
   dsimp only at hk hP2 hr0 ⊢
   have hk2:(k:Int)<200:=by omega
   have HP2:=Lib.hid hP2
   have HO2:=Lib.hid (HO0.out.trans hO2)
   have HT2:=Lib.hid hT2
   clear hP2 hO2 hT2
   obtain ⟨t0,t1,t2,t3,t4,z0,z1,z2,z3,z4⟩:=plCells5 HT2.out
   go_wp2_with fail
   obtain ⟨q1,q2,q3⟩:=FIN.out w2 _ _ _ _ _ _ HT2.out HP2.out HO2.out
   refine bodyPost_ret (results_cell_row rfl _ _ g _ _ _ _ rfl q1.2 Tryz.underlying44 rfl (by kernel_rfl)) rfl ?_
   rw [← hr0]
   exact ⟨rfl,q2,q3⟩
 ·skip
  simp only [b1,Bool.true_or,Bool.or_true,Bool.or_false,Bool.false_or,Bool.or_self,if_true,if_false,Bool.false_eq_true] at hr0
  go_wp2_with fail
  refine (num_any b 200 r _ HP0.out (by decide) (by decide)).mono ?_;rintro e w2 ⟨rfl,hP2,hO2⟩
  have hT2:=hO2.blk HT0.out (by omega)
  have hk:=numP_lt 200 (by decide) r
  generalize numP 200 r=N at *
  obtain ⟨k,r2⟩:=N
  dsimp only at hk hP2 hr0 ⊢
  have hk2:(k:Int)<200:=by omega
  have HP2:=Lib.hid hP2
  have HO2:=Lib.hid (HO0.out.trans hO2)
  have HT2:=Lib.hid hT2
  clear hP2 hO2 hT2
  obtain ⟨t0,t1,t2,t3,t4,z0,z1,z2,z3,z4⟩:=plCells5 HT2.out
  go_wp2_with fail
  obtain ⟨q1,q2,q3⟩:=FIN.out w2 _ _ _ _ _ _ HT2.out HP2.out HO2.out
  refine bodyPost_ret (results_cell_row rfl _ _ g _ _ _ _ rfl q1.2 Tryz.underlying44 rfl (by kernel_rfl)) rfl ?_
  rw [← hr0]
  exact ⟨rfl,q2,q3⟩
end Go.Proofs.YteclejplbphkpaaGreat
namespace Go.Proofs.YteclejplbphkpaaGreat
inductive Ty where
 | nm (s:List UInt8)
 | bs (k:Nat)
 | l1 (k:Nat) (a:Ty)
 | mp (a b:Ty)
end Go.Proofs.YteclejplbphkpaaGreat
namespace Go.Proofs.YteclejplbphkpaaGreat
inductive Con where
 | mk (k:Nat) (n:Int) (d:Nat) (s:List UInt8) (l:List Con)
def con0:Con:=.mk 0 0 0 [] []
structure Fld where
 hasID:Bool
 id:Int
 req:Nat
 ty:List UInt8
 nm:List UInt8
 hasIn:Bool
 ini:Con
structure Mem where
 nm:List UInt8
 has:Bool
 n:Int
structure Met where
 nm:List UInt8
 one:Bool
 ret:List UInt8
 args:List Fld
 thr:List Fld
structure Dfn where
 k:Nat
 nm:List UInt8
 ty:List UInt8
 ini:Con
 fields:List Fld
 mems:List Mem
 ext:List UInt8
 mets:List Met
structure Spc where
 scope:List UInt8
 nm:List UInt8
structure Fil where
 incs:List (List UInt8)
 spaces:List Spc
 defs:List Dfn
structure PSt where
 i:Nat
 e:Nat
section
variable (ws:List TokV)
end
end Go.Proofs.YteclejplbphkpaaGreat
namespace Go.Proofs.YteclejplbphkpaaGreat
open Go.RowKit
section
variable {α:Type} {f:α→Array Value} {k:Nat} {T:TypeId}
def rowL (f:α→Array Value) (xs:List α):List Value:=xs.flatMap fun x=>(f x).toList
theorem rowL_length (hf:∀ x,(f x).size=k) (xs:List α):(rowL f xs).length=xs.length * k:=by
 induction xs with
 | nil=>simp [rowL]
 | cons x xs ih =>
  have:rowL f (x :: xs)=(f x).toList++rowL f xs:=rfl
  rw [this,List.length_append,ih,Array.length_toList,hf,List.length_cons,Nat.succ_mul,Nat.add_comm]
theorem rowL_snoc (xs:List α) (x:α):rowL f (xs++[x])=rowL f xs++(f x).toList:=by
 unfold rowL;simp
theorem rowL_get (hf:∀ x,(f x).size=k) (xs:List α) (i:Nat) (hi:i<xs.length) (j:Nat) (hj:j<k):(rowL f xs)[i * k+j]? = (f xs[i])[j]?:=by
 induction xs generalizing i with
 | nil=>simp at hi
 | cons x xs ih =>
  have e:rowL f (x :: xs)=(f x).toList++rowL f xs:=rfl
  have e5:(f x).toList.length=k:=by rw [Array.length_toList];exact hf x
  rw [e]
  cases i with
  | zero =>
   rw [List.getElem?_append_left (by rw [e5];omega),Nat.zero_mul,Nat.zero_add]
   simp
  | succ i =>
   have e6:(i+1) * k=i * k+k:=Nat.succ_mul i k
   rw [List.getElem?_append_right (by rw [e5];omega),e5]
   have:(i+1) * k+j - k=i * k+j:=by omega
   rw [this,ih i (by simpa using hi)]
   simp
def OwnS (f:α→Array Value) (k:Nat) (T:TypeId) (w:World) (B:Nat) (v:Value) (xs:List α):Prop:=w.ownsRow B T k v xs.length (rowL f xs)
def RdS (f:α→Array Value) (k:Nat) (w:World) (A:Option Addr) (xs:List α):Prop :=
 0<xs.length→∃ g,A=some ⟨g,0,none⟩∧g<w.heap.size∧∀ i (h:i<xs.length) j,j<k→w.cell? ⟨g,i * k+j,none⟩=(f xs[i])[j]?
theorem OwnS.nil_ (w:World) (B:Nat):OwnS f k T w B (.slice none 0 0) []:=World.ownsRow_nil w B _ _
theorem OwnS.alloc {w:World} {B:Nat} {v:Value} {xs:List α} (h:OwnS f k T w B v xs) (o:Obj):OwnS f k T (w.alloc o) B v xs:=World.ownsRow.alloc h o
theorem OwnS.less {w:World} {B B':Nat} {v:Value} {xs:List α} (h:OwnS f k T w B v xs) (hB:B'≤B):OwnS f k T w B' v xs:=by
 obtain ⟨h1,h2⟩:=h
 refine ⟨h1,?_⟩
 rcases h2 with h2 | ⟨g,cap,cur,hv,hg,r⟩
 ·exact .inl h2
 ·exact .inr ⟨g,cap,cur,hv,by omega,r⟩
theorem OwnS.nx {w w':World} {B:Nat} {v:Value} {xs:List α} (h:OwnS f k T w B v xs) (ho:Nx w w'):OwnS f k T w' B v xs:=by
 obtain ⟨h1,h2⟩:=h
 refine ⟨h1,?_⟩
 rcases h2 with h2 | ⟨g,cap,cur,hv,hg,hh,r⟩
 ·exact .inl h2
 ·refine .inr ⟨g,cap,cur,hv,hg,?_,r⟩
  rw [ho.block g ?_];exact hh
  rcases Nat.lt_or_ge g w.heap.size with h | h
  ·exact h
  ·rw [Array.getElem?_eq_none h] at hh;cases hh
theorem OwnS.sl (hf:∀ x,(f x).size=k) {w:World} {B:Nat} {v:Value} {xs:List α} (h:OwnS f k T w B v xs):∃ A c,v = .slice A xs.length c∧xs.length≤c∧c≤maxLen∧RdS f k w A xs:=by
 obtain ⟨h1,h2⟩:=h
 rcases h2 with ⟨rfl,h0⟩ | ⟨g,cap,cur,rfl,hg,hh,hn,hm,hs,ht⟩
 ·have:xs=[]:=List.eq_nil_of_length_eq_zero h0
  subst this
  exact ⟨none,0,rfl,Nat.le_refl _,Nat.zero_le _,fun h=>by simp at h⟩
 ·refine ⟨_,cap,rfl,hn,hm,fun _=>⟨g,rfl,?_,fun i hi j hj=>?_⟩⟩
  ·rcases Nat.lt_or_ge g w.heap.size with h | h
   ·exact h
   ·rw [Array.getElem?_eq_none h] at hh;cases hh
  ·have hlt:i * k+j<xs.length * k:=by
    have h1:(i+1) * k≤xs.length * k:=Nat.mul_le_mul_right k hi
    have h2:(i+1) * k=i * k+k:=Nat.succ_mul i k
    omega
   rw [cell_of_row w g (i * k+j) cur _ (0,0) hh,← rowL_get hf xs i hi j hj,← ht,List.getElem?_take,if_pos (by simpa using hlt)]
   simp
theorem RdS.nx {w w':World} {A:Option Addr} {xs:List α} (h:RdS f k w A xs) (hn:Nx w w'):RdS f k w' A xs:=fun h0=>by
 obtain ⟨g,e,hg,hc⟩:=h h0
 refine ⟨g,e,Nat.lt_of_lt_of_le hg hn.size,fun i hi j hj=>?_⟩
 rw [← hc i hi j hj]
 unfold World.cell?
 simp only
 rw [hn.block g hg]
end
section
variable (w:World) {ops:Array Oper} {rest:List Oper} {o:Oper} {a:Act} {Q:Exit→Act→World→Prop} {α:Type} {f:α→Array Value} {k sz:Nat} {T T2:TypeId} {z:Value}
end
end Go.Proofs.YteclejplbphkpaaGreat
namespace Go.Proofs.YteclejplbphkpaaGreat
open Go.RowKit
section
variable {α:Type} {f:α→Array Value} {k:Nat} {T:TypeId}
theorem OwnS.oth {w w':World} {B b:Nat} {v:Value} {xs:List α} (h:OwnS f k T w B v xs) (ho:Oth b w w') (hb:b<B):OwnS f k T w' B v xs:=by
 obtain ⟨h1,h2⟩:=h
 refine ⟨h1,?_⟩
 rcases h2 with h2 | ⟨g,cap,cur,hv,hg,hh,r⟩
 ·exact .inl h2
 ·refine .inr ⟨g,cap,cur,hv,hg,?_,r⟩
  rw [ho.block g ?_ (by omega)];exact hh
  rcases Nat.lt_or_ge g w.heap.size with h | h
  ·exact h
  ·rw [Array.getElem?_eq_none h] at hh;cases hh
end
end Go.Proofs.YteclejplbphkpaaGreat
namespace Go.Proofs.YteclejplbphkpaaGreat
open Go.RowKit
def bt (l:List UInt8):Value:=.string ⟨l.toArray⟩
def All2 {α β:Type} (R:α→β→Prop):List α→List β→Prop
 | [],[]=>True
 | x :: xs,y :: ys=>R x y∧All2 R xs ys
 | _,_=>False
theorem All2.len {α β:Type} {R:α→β→Prop}:∀ {xs:List α} {ys:List β},All2 R xs ys→xs.length=ys.length
 | [],[],_=>rfl
 | x :: xs,y :: ys,h=>by simp [All2.len h.2]
 | [],_ :: _,h=>h.elim
 | _ :: _,[],h=>h.elim
theorem All2.mono {α β:Type} {R S:α→β→Prop} (hRS:∀ x y,R x y→S x y):∀ {xs:List α} {ys:List β},All2 R xs ys→All2 S xs ys
 | [],[],_=>trivial
 | x :: xs,y :: ys,h=>⟨hRS _ _ h.1,All2.mono hRS h.2⟩
 | [],_ :: _,h=>h.elim
 | _ :: _,[],h=>h.elim
theorem All2.app {α β:Type} {R:α→β→Prop} {us:List α} {vs:List β} (k:All2 R us vs):∀ {xs:List α} {ys:List β},All2 R xs ys→All2 R (xs++us) (ys++vs)
 | [],[],_=>k
 | x :: xs,y :: ys,h=>⟨h.1,All2.app k h.2⟩
 | [],_ :: _,h=>h.elim
 | _ :: _,[],h=>h.elim
theorem All2.snoc {α β:Type} {R:α→β→Prop} {xs:List α} {ys:List β} {x:α} {y:β} (h:All2 R xs ys) (k:R x y):All2 R (xs++[x]) (ys++[y]):=All2.app (us:=[x]) (vs:=[y]) ⟨k,trivial⟩ h
theorem All2.at_ {α β:Type} {R:α→β→Prop}:∀ {xs:List α} {ys:List β},All2 R xs ys→∀ i (hx:i<xs.length) (hy:i<ys.length),R xs[i] ys[i]
 | x :: xs,y :: ys,h,0,_,_=>h.1
 | x :: xs,y :: ys,h,i+1,hx,hy=>All2.at_ h.2 i (by simpa using hx) (by simpa using hy)
 | [],_ :: _,h,_,_,_=>h.elim
 | _ :: _,[],h,_,_,_=>h.elim
 | [],[],_,i,hx,_=>absurd hx (by simp)
structure ConS where
 k:Nat
 n:Int
 d:Nat
 s:List UInt8
 l:Value
def conA (x:ConS):Array Value:=#[.int .i64 (x.k:Int),.int .i64 x.n,.int .u64 (x.d:Int),bt x.s,x.l]
structure FldS where
 hasID:Bool
 id:Int
 req:Nat
 ty:List UInt8
 nm:List UInt8
 hasIn:Bool
 ini:ConS
def fldA (x:FldS):Array Value:=#[.bool x.hasID,.int .i64 x.id,.int .i64 (x.req:Int),bt x.ty,bt x.nm,.bool x.hasIn,.int .i64 (x.ini.k:Int),.int .i64 x.ini.n,.int .u64 (x.ini.d:Int),bt x.ini.s,x.ini.l]
def memA (x:Mem):Array Value:=#[bt x.nm,.bool x.has,.int .i64 x.n]
structure MetS where
 nm:List UInt8
 one:Bool
 ret:List UInt8
 args:Value
 thr:Value
def metA (x:MetS):Array Value:=#[bt x.nm,.bool x.one,bt x.ret,x.args,x.thr]
structure DfnS where
 k:Nat
 nm:List UInt8
 ty:List UInt8
 ini:ConS
 fields:Value
 mems:Value
 ext:List UInt8
 mets:Value
def dfnA (x:DfnS):Array Value:=#[.int .i64 (x.k:Int),bt x.nm,bt x.ty,.int .i64 (x.ini.k:Int),.int .i64 x.ini.n,.int .u64 (x.ini.d:Int),bt x.ini.s,x.ini.l,x.fields,x.mems,bt x.ext,x.mets]
def spcA (x:Spc):Array Value:=#[bt x.scope,bt x.nm]
def strA (x:List UInt8):Array Value:=#[bt x]
structure FilS where
 incs:Value
 spaces:Value
 defs:Value
def filA (x:FilS):Array Value:=#[x.incs,x.spaces,x.defs]
theorem conA_size (x:ConS):(conA x).size=5:=rfl
theorem fldA_size (x:FldS):(fldA x).size=11:=rfl
theorem memA_size (x:Mem):(memA x).size=3:=rfl
theorem metA_size (x:MetS):(metA x).size=5:=rfl
theorem dfnA_size (x:DfnS):(dfnA x).size=12:=rfl
theorem spcA_size (x:Spc):(spcA x).size=2:=rfl
theorem strA_size (x:List UInt8):(strA x).size=1:=rfl
def Sl {α:Type} (P:Nat→Prop) (f:α→Array Value) (k:Nat) (T:TypeId) (w:World) (v:Value) (xs:List α):Prop :=
 OwnS f k T w 0 v xs∧∀ g,v.ownBlock=some g→P g
section
variable {α:Type} {f:α→Array Value} {k:Nat} {T:TypeId} {P Q:Nat→Prop} {w w':World} {v:Value} {xs:List α}
theorem OwnS.lt_ {B:Nat} (h:OwnS f k T w B v xs) (g:Nat) (e:v.ownBlock=some g):g<w.heap.size:=(World.ownsRow.lt h g e).2
theorem OwnS.keep {B:Nat} (h:OwnS f k T w B v xs) (hk:∀ g,v.ownBlock=some g→w'.heap[g]? = w.heap[g]?):OwnS f k T w' B v xs:=by
 obtain ⟨h1,h2⟩:=h
 refine ⟨h1,?_⟩
 rcases h2 with h2 | ⟨g,cap,cur,hv,hg,hh,r⟩
 ·exact .inl h2
 ·refine .inr ⟨g,cap,cur,hv,hg,?_,r⟩
  rw [hk g (by rw [hv];rfl)];exact hh
theorem Sl.nil_:Sl P f k T w (.slice none 0 0) []:=⟨OwnS.nil_ _ _,fun g e=>by cases e⟩
theorem Sl.keep (h:Sl P f k T w v xs) (hk:∀ g,P g→g<w.heap.size→w'.heap[g]? = w.heap[g]?):Sl P f k T w' v xs :=
 ⟨h.1.keep fun g e=>hk g (h.2 g e) (h.1.lt_ g e),h.2⟩
theorem Sl.to (h:Sl P f k T w v xs) (hq:∀ g,P g→g<w.heap.size→Q g):Sl Q f k T w v xs:=⟨h.1,fun g e=>hq g (h.2 g e) (h.1.lt_ g e)⟩
end
structure Mv (P Q:Nat→Prop) (w w':World):Prop where
 keep:∀ g,P g→g<w.heap.size→w'.heap[g]? = w.heap[g]?
 «to» : ∀ g,P g→g<w.heap.size→Q g
theorem Sl.mv {P Q:Nat→Prop} {w w':World} {α:Type} {f:α→Array Value} {k:Nat} {T:TypeId} {v:Value} {xs:List α} (h:Sl P f k T w v xs) (m:Mv P Q w w'):Sl Q f k T w' v xs :=
 ⟨h.1.keep fun g e=>m.keep g (h.2 g e) (h.1.lt_ g e),fun g e=>m.to g (h.2 g e) (h.1.lt_ g e)⟩
def But (P:Nat→Prop) (v:Value) (g:Nat):Prop:=P g∧v.ownBlock≠some g
theorem Mv.but {P Q:Nat→Prop} {w w':World} (m:Mv P Q w w') (v:Value):Mv (But P v) (But Q v) w w':=⟨fun g h hl=>m.keep g h.1 hl,fun g h hl=>⟨m.to g h.1 hl,h.2⟩⟩
def RepL {α β:Type} (f:α→Array Value) (k:Nat) (T:TypeId) (R:World→(Nat→Prop)→α→β→Prop) (w:World) (P:Nat→Prop) (v:Value) (l:List β):Prop :=
 ∃ xs,Sl P f k T w v xs∧All2 (R w (But P v)) xs l
def Lasts {α β:Type} (R:World→(Nat→Prop)→α→β→Prop):Prop:=∀ {P Q:Nat→Prop} {w w':World},Mv P Q w w'→∀ {x:α} {y:β},R w P x y→R w' Q x y
theorem RepL.mv {α β:Type} {f:α→Array Value} {k:Nat} {T:TypeId} {R:World→(Nat→Prop)→α→β→Prop} (hR:Lasts R) {P Q:Nat→Prop} {w w':World} (m:Mv P Q w w') {v:Value} {l:List β} :
  RepL f k T R w P v l→RepL f k T R w' Q v l:=fun ⟨xs,h1,h2⟩=>⟨xs,h1.mv m,h2.mono fun _ _ h=>hR (m.but v) h⟩
theorem RepL.nil_ {α β:Type} {f:α→Array Value} {k:Nat} {T:TypeId} {R:World→(Nat→Prop)→α→β→Prop} {P:Nat→Prop} {w:World}:RepL f k T R w P (.slice none 0 0) ([]:List β) :=
 ⟨[],Sl.nil_,trivial⟩
def RC (n:Nat) (w:World):(Nat→Prop)→ConS→Con→Prop:=Nat.rec (motive:=fun _=>(Nat→Prop)→ConS→Con→Prop) (fun _ _ _=>False)
 (fun _ ih P x c=>match c with | .mk k m d s l=>x.k=k∧x.n=m∧x.d=d∧x.s=s∧∃ ys,Sl P conA 5 44 w x.l ys∧All2 (ih (But P x.l)) ys l) n
theorem RC.lasts:∀ n,Lasts (RC n)
 | 0=>fun _ _ _ h=>h
 | n+1=>fun m x c h=>by
  obtain ⟨k,a,d,s,l⟩:=c
  obtain ⟨h1,h2,h3,h4,ys,h5,h6⟩:=h
  exact ⟨h1,h2,h3,h4,ys,h5.mv m,h6.mono fun x y h=>RC.lasts n (m.but _) h⟩
theorem RC.mk {n:Nat} {w:World} {P:Nat→Prop} {k:Nat} {m:Int} {d:Nat} {s:List UInt8} {v:Value} {l:List Con} (h:RepL conA 5 44 (RC n) w P v l):RC (n+1) w P ⟨k,m,d,s,v⟩ (.mk k m d s l):=by
 obtain ⟨ys,h5,h6⟩:=h
 exact ⟨rfl,rfl,rfl,rfl,ys,h5,h6⟩
theorem RC.of {n:Nat} {w:World} {P:Nat→Prop} {x:ConS} {c:Con} (h:RC (n+1) w P x c):∃ l,c = .mk x.k x.n x.d x.s l∧RepL conA 5 44 (RC n) w P x.l l:=by
 obtain ⟨k,a,d,s,l⟩:=c
 obtain ⟨rfl,rfl,rfl,rfl,ys,h5,h6⟩:=h
 exact ⟨l,rfl,ys,h5,h6⟩
def REq {α:Type} (_:World) (_:Nat→Prop) (x y:α):Prop:=x=y
theorem REq.lasts {α:Type}:Lasts (REq (α:=α)):=fun _ _ _ h=>h
def RPr (n:Nat) (w:World) (P:Nat→Prop) (x:ConS×ConS) (y:Con×Con):Prop:=RC n w P x.1 y.1∧RC n w P x.2 y.2
theorem RPr.lasts (n:Nat):Lasts (RPr n):=fun m _ _ h=>⟨RC.lasts n m h.1,RC.lasts n m h.2⟩
def RF (w:World) (P:Nat→Prop) (x:FldS) (y:Fld):Prop :=
 x.hasID=y.hasID∧x.id=y.id∧x.req=y.req∧x.ty=y.ty∧x.nm=y.nm∧x.hasIn=y.hasIn∧RC 13 w P x.ini y.ini
theorem RF.lasts:Lasts RF:=fun m _ _ h=>⟨h.1,h.2.1,h.2.2.1,h.2.2.2.1,h.2.2.2.2.1,h.2.2.2.2.2.1,RC.lasts 13 m h.2.2.2.2.2.2⟩
def LF:=RepL fldA 11 75 RF
theorem LF.lasts:Lasts LF:=fun m _ _ h=>RepL.mv RF.lasts m h
def RM (w:World) (P:Nat→Prop) (x:MetS) (y:Met):Prop:=x.nm=y.nm∧x.one=y.one∧x.ret=y.ret∧LF w P x.args y.args∧LF w P x.thr y.thr
theorem RM.lasts:Lasts RM:=fun m _ _ h=>⟨h.1,h.2.1,h.2.2.1,LF.lasts m h.2.2.2.1,LF.lasts m h.2.2.2.2⟩
def LM:=RepL metA 5 78 RM
theorem LM.lasts:Lasts LM:=fun m _ _ h=>RepL.mv RM.lasts m h
def LMm:=RepL memA 3 72 (REq (α:=Mem))
theorem LMm.lasts:Lasts LMm:=fun m _ _ h=>RepL.mv REq.lasts m h
def RD (w:World) (P:Nat→Prop) (x:DfnS) (y:Dfn):Prop :=
 x.k=y.k∧x.nm=y.nm∧x.ty=y.ty∧RC 13 w P x.ini y.ini∧LF w P x.fields y.fields∧LMm w P x.mems y.mems∧x.ext=y.ext∧LM w P x.mets y.mets
theorem RD.lasts:Lasts RD:=fun m _ _ h=>⟨h.1,h.2.1,h.2.2.1,RC.lasts 13 m h.2.2.2.1,LF.lasts m h.2.2.2.2.1,LMm.lasts m h.2.2.2.2.2.1,h.2.2.2.2.2.2.1,LM.lasts m h.2.2.2.2.2.2.2⟩
def LD:=RepL dfnA 12 57 RD
theorem LD.lasts:Lasts LD:=fun m _ _ h=>RepL.mv RD.lasts m h
def LS:=RepL spcA 2 51 (REq (α:=Spc))
theorem LS.lasts:Lasts LS:=fun m _ _ h=>RepL.mv REq.lasts m h
def LT:=RepL strA 1 9 (REq (α:=List UInt8))
theorem LT.lasts:Lasts LT:=fun m _ _ h=>RepL.mv REq.lasts m h
def LC (n:Nat):=RepL conA 5 44 (RC n)
theorem LC.lasts (n:Nat):Lasts (LC n):=fun m _ _ h=>RepL.mv (RC.lasts n) m h
def RFile (w:World) (P:Nat→Prop) (x:FilS) (y:Fil):Prop:=LT w P x.incs y.incs∧LS w P x.spaces y.spaces∧LD w P x.defs y.defs
theorem RFile.lasts:Lasts RFile:=fun m _ _ h=>⟨LT.lasts m h.1,LS.lasts m h.2.1,LD.lasts m h.2.2⟩
theorem rc_con0 {n:Nat} {w:World} {P:Nat→Prop}:RC (n+1) w P ⟨0,0,0,[],.slice none 0 0⟩ con0:=RC.mk RepL.nil_
def Fm (B:Nat) (g:Nat):Prop:=B≤g
theorem Mv.nx {B C:Nat} {w w':World} (h:Nx w w') (hC:C≤B):Mv (Fm B) (Fm C) w w':=⟨fun g _ hl=>h.block g hl,fun g h _=>Nat.le_trans hC h⟩
theorem Mv.oth {B C b:Nat} {w w':World} (h:Oth b w w') (hC:C≤B) (hb:b<B):Mv (Fm B) (Fm C) w w':=⟨fun g hg hl=>h.block g hl (by have:B≤g:=hg;omega),fun g h _=>Nat.le_trans hC h⟩
theorem Mv.less {B C:Nat} {w:World} (hC:C≤B):Mv (Fm B) (Fm C) w w:=⟨fun _ _ _=>rfl,fun g h _=>Nat.le_trans hC h⟩
end Go.Proofs.YteclejplbphkpaaGreat
namespace Go.Proofs.YteclejplbphkpaaGreat
open Go.RowKit
structure Fr (b:Nat) (v:Value) (w:World) (v':Value) (w':World):Prop where
 os:w'.os=w.os
 tape:w'.tape=w.tape
 output:w'.output=w.output
 size:w.heap.size≤w'.heap.size
 block:∀ k,k<w.heap.size→k≠b→v.ownBlock≠some k→w'.heap[k]? = w.heap[k]?
 own:∀ k,v'.ownBlock=some k→v.ownBlock=some k∨w.heap.size≤k
theorem Fr.refl (b:Nat) (v:Value) (w:World):Fr b v w v w:=⟨rfl,rfl,rfl,Nat.le_refl _,fun _ _ _ _=>rfl,fun _ h=>.inl h⟩
theorem Fr.trans {b:Nat} {v v1 v2:Value} {x y z:World} (h:Fr b v x v1 y) (k:Fr b v1 y v2 z):Fr b v x v2 z :=
  ⟨k.os.trans h.os,k.tape.trans h.tape,k.output.trans h.output,Nat.le_trans h.size k.size,
   fun i hi hb hv=>(k.block i (Nat.lt_of_lt_of_le hi h.size) hb (fun e=>(h.own i e).elim hv (by omega))).trans (h.block i hi hb hv),
   fun i e=>(k.own i e).elim (h.own i) (fun h'=>.inr (Nat.le_trans h.size h'))⟩
theorem Fr.oth {b:Nat} {w w':World} (h:Oth b w w') (v:Value):Fr b v w v w':=⟨h.os,h.tape,h.output,h.size,fun k hk hb _=>h.block k hk hb,fun _ h=>.inl h⟩
theorem Fr.nx {w w':World} (h:Nx w w') (b:Nat) (v:Value):Fr b v w v w':=⟨h.os,h.tape,h.output,h.size,fun k hk _ _=>h.block k hk,fun _ h=>.inl h⟩
theorem Fr.set (w:World) (b i:Nat) (u v:Value):Fr b v w v (w.setCell ⟨b,i,none⟩ u):=Fr.oth (Oth.set w b i u) v
theorem Fr.toOth {b B:Nat} {v v':Value} {w w1 w':World} (h:Fr b v w1 v' w') (ho:Oth b w w1) (hv:∀ k,v.ownBlock=some k→B≤k) (hB:w.heap.size≤B):Oth b w w' :=
 ⟨h.os.trans ho.os,h.tape.trans ho.tape,h.output.trans ho.output,Nat.le_trans ho.size h.size,fun k hk hb =>
  (h.block k (Nat.lt_of_lt_of_le hk ho.size) hb (fun e=>by have:=hv k e;omega)).trans (ho.block k hk hb)⟩
end Go.Proofs.YteclejplbphkpaaGreat
