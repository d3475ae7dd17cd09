/- PrintForms: how some files are printed. PrintForms' walk, whatever the texts of numbers. -/
import Derived.Test.YtjggghfekakogaaGreatDoorG18
import Derived.Test.YtjggghfekakogaaGreatDoorG01
set_option linter.unusedVariables false
set_option linter.unusedSimpArgs false
set_option linter.unnecessarySimpa false
namespace Go.Proofs.YtjggghfekakogaaGreatDoor
open Go.RowKit
theorem heap_allocs:∀ (os:List Obj) (w:World),Nx w (os.foldl World.alloc w)∧(os.foldl World.alloc w).heap.size=w.heap.size+os.length∧∀ k (h:k<os.length),(os.foldl World.alloc w).heap[w.heap.size+k]? = some os[k]
 | [],w=>⟨Nx.refl _,rfl,fun k h=>absurd h (by simp)⟩
 | o :: os,w=>by
  obtain ⟨h1,h2,h3⟩:=heap_allocs os (w.alloc o)
  have hs:(w.alloc o).heap.size=w.heap.size+1:=by simp
  refine ⟨Nx.trans (nx0 w o) h1,?_,fun k h=>?_⟩
  ·show (List.foldl World.alloc (w.alloc o) os).heap.size=_
   rw [h2,hs];simp only [List.length_cons];omega
  ·cases k with
   | zero =>
    show (List.foldl World.alloc (w.alloc o) os).heap[w.heap.size]? = _
    rw [h1.block _ (by omega)];exact heap_alloc_new w o
   | succ k =>
    have:=h3 k (by simpa using h)
    rw [hs] at this
    show (List.foldl World.alloc (w.alloc o) os).heap[w.heap.size+(k+1)]? = _
    rw [show w.heap.size+(k+1)=w.heap.size+1+k by omega];exact this
theorem an_ne {P:Nat→Prop} {k j m c:Nat} (hP:P j) (h:j≠k):But P (.slice (some ⟨k,0,none⟩) m c) j:=⟨hP,fun e=>h (by cases e;rfl)⟩
def pfO (g:Nat):List Obj :=
   [.cells (rowL conA [⟨1,7,0,[],nV⟩]).toArray 48,
    .cells (rowL strA [[98]]).toArray 9,
    .cells (rowL spcA [⟨[42],[120,46,121]⟩]).toArray 50,
    .cells (rowL conA [⟨1,7,0,[],nV⟩,⟨1,7,0,[],nV⟩]).toArray 48,
    .cells (rowL dfnA [⟨3,[99],[108,105,115,116,60,105,56,62],⟨5,0,0,[],.slice (some ⟨g+3,0,none⟩) 2 2⟩,nV,nV,[],nV⟩]).toArray 55,
    .cells (rowL memA [⟨[65],false,0⟩,⟨[66],true,-3⟩]).toArray 57,
    .cells (rowL dfnA [⟨2,[69],[],⟨0,0,0,[],nV⟩,nV,.slice (some ⟨g+5,0,none⟩) 2 2,[],nV⟩]).toArray 55,
    .cells (rowL fldA [⟨true,2,2,[105,56],[97],true,⟨1,7,0,[],nV⟩⟩,⟨false,0,0,[98,46,67],[100],false,⟨0,0,0,[],nV⟩⟩]).toArray 59,
    .cells (rowL dfnA [⟨5,[85],[],⟨0,0,0,[],nV⟩,.slice (some ⟨g+7,0,none⟩) 2 2,nV,[],nV⟩]).toArray 55,
    .cells (rowL fldA [⟨true,1,0,[105,56],[97],false,⟨0,0,0,[],nV⟩⟩,⟨false,0,0,[105,56],[98],false,⟨0,0,0,[],nV⟩⟩]).toArray 59,
    .cells (rowL fldA [⟨true,1,0,[88],[120],false,⟨0,0,0,[],nV⟩⟩]).toArray 59,
    .cells (rowL metA [⟨[109],true,[118,111,105,100],nV,nV⟩,⟨[110],false,[105,56],.slice (some ⟨g+9,0,none⟩) 2 2,.slice (some ⟨g+10,0,none⟩) 1 1⟩]).toArray 61,
    .cells (rowL dfnA [⟨7,[83],[],⟨0,0,0,[],nV⟩,nV,nV,[98,46,84],.slice (some ⟨g+11,0,none⟩) 2 2⟩,⟨6,[88],[],⟨0,0,0,[],nV⟩,nV,nV,[],nV⟩]).toArray 55,
    .cells (rowL filA [⟨.slice (some ⟨g+1,0,none⟩) 1 1,.slice (some ⟨g+2,0,none⟩) 1 1,nV⟩,⟨nV,nV,.slice (some ⟨g+4,0,none⟩) 1 1⟩,⟨nV,nV,.slice (some ⟨g+6,0,none⟩) 1 1⟩,⟨nV,nV,.slice (some ⟨g+8,0,none⟩) 1 1⟩,⟨nV,nV,.slice (some ⟨g+12,0,none⟩) 2 2⟩]).toArray 27,
    .cells (rowL strA [ft0,ft1,ft2,ft3,ft4]).toArray 9]
theorem pf_lie {sh:Nat→List UInt8} {W:World} {g:Nat} (hk:∀ k (h:k<(pfO g).length),W.heap[g+k]? = some (pfO g)[k]) :
  ∀ i,i<5→∃ x f t,RFile W An x f∧prFil f∧printF tenS sh f=t∧t.length≤64000∧(∀ j,j<3→W.cell? ⟨g+13,i * 3+j,none⟩=(filA x)[j]?)∧W.cell? ⟨g+14,i,none⟩=some (.string ⟨t.toArray⟩):=by
 have b13:Blk W (g+13) (g+13) (rowL filA [⟨.slice (some ⟨g+1,0,none⟩) 1 1,.slice (some ⟨g+2,0,none⟩) 1 1,nV⟩,⟨nV,nV,.slice (some ⟨g+4,0,none⟩) 1 1⟩,⟨nV,nV,.slice (some ⟨g+6,0,none⟩) 1 1⟩,⟨nV,nV,.slice (some ⟨g+8,0,none⟩) 1 1⟩,⟨nV,nV,.slice (some ⟨g+12,0,none⟩) 2 2⟩]).toArray 27:=⟨Nat.le_refl _,hk 13 (show 13<15 by decide)⟩
 have b14:Blk W (g+14) (g+14) (rowL strA [ft0,ft1,ft2,ft3,ft4]).toArray 9:=⟨Nat.le_refl _,hk 14 (show 14<15 by decide)⟩
 intro i hi
 match i,hi with
 | 0,_=>exact ⟨⟨.slice (some ⟨g+1,0,none⟩) 1 1,.slice (some ⟨g+2,0,none⟩) 1 1,nV⟩,fm0,ft0,⟨RepL.built strA_size (xs:=[[98]]) rfl (hk 1 (show 1<15 by decide)) trivial (show 1≤maxLen by decide) ⟨rfl,trivial⟩,RepL.built spcA_size (xs:=[⟨[42],[120,46,121]⟩]) rfl (hk 2 (show 2<15 by decide)) trivial (show 1≤maxLen by decide) ⟨rfl,trivial⟩,RepL.nil_⟩,fo0,fp0 sh,by decide,fun j hj=>match j,hj with
   | 0,_=>b13.cell 0
   | 1,_=>b13.cell 1
   | 2,_=>b13.cell 2,b14.cell 0⟩
 | 1,_=>exact ⟨⟨nV,nV,.slice (some ⟨g+4,0,none⟩) 1 1⟩,fm1,ft1,⟨RepL.nil_,RepL.nil_,RepL.built dfnA_size (xs:=[⟨3,[99],[108,105,115,116,60,105,56,62],⟨5,0,0,[],.slice (some ⟨g+3,0,none⟩) 2 2⟩,nV,nV,[],nV⟩]) rfl (hk 4 (show 4<15 by decide)) trivial (show 1≤maxLen by decide) ⟨⟨rfl,rfl,rfl,RC.mk (RepL.built conA_size (xs:=[⟨1,7,0,[],nV⟩,⟨1,7,0,[],nV⟩]) rfl (hk 3 (show 3<15 by decide)) (an_ne trivial (by omega)) (show 2≤maxLen by decide) ⟨rc1 _ 1 7 0 [],rc1 _ 1 7 0 [],trivial⟩),RepL.nil_,RepL.nil_,rfl,RepL.nil_⟩,trivial⟩⟩,fo1,fp1 sh,by decide,fun j hj=>match j,hj with
   | 0,_=>b13.cell 3
   | 1,_=>b13.cell 4
   | 2,_=>b13.cell 5,b14.cell 1⟩
 | 2,_=>exact ⟨⟨nV,nV,.slice (some ⟨g+6,0,none⟩) 1 1⟩,fm2,ft2,⟨RepL.nil_,RepL.nil_,RepL.built dfnA_size (xs:=[⟨2,[69],[],⟨0,0,0,[],nV⟩,nV,.slice (some ⟨g+5,0,none⟩) 2 2,[],nV⟩]) rfl (hk 6 (show 6<15 by decide)) trivial (show 1≤maxLen by decide) ⟨⟨rfl,rfl,rfl,rc_con0,RepL.nil_,RepL.built memA_size (xs:=[⟨[65],false,0⟩,⟨[66],true,-3⟩]) rfl (hk 5 (show 5<15 by decide)) (an_ne trivial (by omega)) (show 2≤maxLen by decide) ⟨rfl,rfl,trivial⟩,rfl,RepL.nil_⟩,trivial⟩⟩,fo2,fp2 sh,by decide,fun j hj=>match j,hj with
   | 0,_=>b13.cell 6
   | 1,_=>b13.cell 7
   | 2,_=>b13.cell 8,b14.cell 2⟩
 | 3,_=>exact ⟨⟨nV,nV,.slice (some ⟨g+8,0,none⟩) 1 1⟩,fm3,ft3,⟨RepL.nil_,RepL.nil_,RepL.built dfnA_size (xs:=[⟨5,[85],[],⟨0,0,0,[],nV⟩,.slice (some ⟨g+7,0,none⟩) 2 2,nV,[],nV⟩]) rfl (hk 8 (show 8<15 by decide)) trivial (show 1≤maxLen by decide) ⟨⟨rfl,rfl,rfl,rc_con0,RepL.built fldA_size (xs:=[⟨true,2,2,[105,56],[97],true,⟨1,7,0,[],nV⟩⟩,⟨false,0,0,[98,46,67],[100],false,⟨0,0,0,[],nV⟩⟩]) rfl (hk 7 (show 7<15 by decide)) (an_ne trivial (by omega)) (show 2≤maxLen by decide) ⟨⟨rfl,rfl,rfl,rfl,rfl,rfl,rc1 _ 1 7 0 []⟩,⟨rfl,rfl,rfl,rfl,rfl,rfl,rc_con0⟩,trivial⟩,RepL.nil_,rfl,RepL.nil_⟩,trivial⟩⟩,fo3,fp3 sh,by decide,fun j hj=>match j,hj with
   | 0,_=>b13.cell 9
   | 1,_=>b13.cell 10
   | 2,_=>b13.cell 11,b14.cell 3⟩
 | 4,_=>exact ⟨⟨nV,nV,.slice (some ⟨g+12,0,none⟩) 2 2⟩,fm4,ft4,⟨RepL.nil_,RepL.nil_,RepL.built dfnA_size (xs:=[⟨7,[83],[],⟨0,0,0,[],nV⟩,nV,nV,[98,46,84],.slice (some ⟨g+11,0,none⟩) 2 2⟩,⟨6,[88],[],⟨0,0,0,[],nV⟩,nV,nV,[],nV⟩]) rfl (hk 12 (show 12<15 by decide)) trivial (show 2≤maxLen by decide) ⟨⟨rfl,rfl,rfl,rc_con0,RepL.nil_,RepL.nil_,rfl,RepL.built metA_size (xs:=[⟨[109],true,[118,111,105,100],nV,nV⟩,⟨[110],false,[105,56],.slice (some ⟨g+9,0,none⟩) 2 2,.slice (some ⟨g+10,0,none⟩) 1 1⟩]) rfl (hk 11 (show 11<15 by decide)) (an_ne trivial (by omega)) (show 2≤maxLen by decide) ⟨⟨rfl,rfl,rfl,RepL.nil_,RepL.nil_⟩,⟨rfl,rfl,rfl,RepL.built fldA_size (xs:=[⟨true,1,0,[105,56],[97],false,⟨0,0,0,[],nV⟩⟩,⟨false,0,0,[105,56],[98],false,⟨0,0,0,[],nV⟩⟩]) rfl (hk 9 (show 9<15 by decide)) (an_ne (an_ne trivial (by omega)) (by omega)) (show 2≤maxLen by decide) ⟨⟨rfl,rfl,rfl,rfl,rfl,rfl,rc_con0⟩,⟨rfl,rfl,rfl,rfl,rfl,rfl,rc_con0⟩,trivial⟩,RepL.built fldA_size (xs:=[⟨true,1,0,[88],[120],false,⟨0,0,0,[],nV⟩⟩]) rfl (hk 10 (show 10<15 by decide)) (an_ne (an_ne trivial (by omega)) (by omega)) (show 1≤maxLen by decide) ⟨⟨rfl,rfl,rfl,rfl,rfl,rfl,rc_con0⟩,trivial⟩⟩,trivial⟩⟩,⟨rfl,rfl,rfl,rc_con0,RepL.nil_,RepL.nil_,rfl,RepL.nil_⟩,trivial⟩⟩,fo4,fp4 sh,by decide,fun j hj=>match j,hj with
   | 0,_=>b13.cell 12
   | 1,_=>b13.cell 13
   | 2,_=>b13.cell 14,b14.cell 4⟩
set_option maxRecDepth 100000 in
set_option maxHeartbeats 12800000 in
theorem pf_walk {sh:Nat→List UInt8} (hsh:∀ B l,ShowR B l→l=sh B) (w:World) (ht:Tab w) :
  Calls Tryz.prog 9 #[] w fun e w'=>e = .returned (.bool true)∧Nx w w':=by
 have HSH:=Lib.hid hsh
 have HT:=Lib.hid ht
 go_enter Tryz.func9,Tryz.ntmps9
 go_wp2_with fail
 refine (begun_any hsh w ht).mono ?_;rintro e w0 ⟨rfl,hb⟩
 clear hsh ht
 have HB:=Lib.hid hb
 clear hb
 go_wp2_with fail
 obtain ⟨g,hg⟩:∃ g,w0.heap.size=g:=⟨_,rfl⟩
 rw [hg]
 obtain ⟨gF,hgF⟩:∃ x,g+1+1+1+1+1+1+1+1+1+1+1+1+1=x:=⟨_,rfl⟩
 rw [hgF]
 generalize hW:((((((((((((((w0.alloc _).alloc _).alloc _).alloc _).alloc _).alloc _).alloc _).alloc _).alloc _).alloc _).alloc _).alloc _).alloc _).alloc _).alloc _=W
 have hA:W=(pfO g).foldl World.alloc w0:=hW.symm
 obtain ⟨hn,hsz,hk⟩:=heap_allocs (pfO g) w0
 rw [← hA] at hn hsz hk
 rw [hg] at hk hsz
 have HL:=Lib.hid (pf_lie (sh:=sh) hk)
 have hbC:Blk W g g (conA ⟨1,7,0,[],nV⟩) 48:=⟨Nat.le_refl _,hk 0 (show 0<15 by decide)⟩
 have HBC:=Lib.hid hbC
 have HWN:=Lib.hid (HB.out.trans hn)
 have hgF':gF=g+13:=hgF.symm
 have HSZ:Hid (gF+1<W.heap.size):=by unfold Hid;rw [hsz,hgF',show (pfO g).length=15 from rfl];omega
 rw [← hgF',show g+14=gF+1 by omega] at HL
 clear hA hn hsz hk hW hbC hgF' hgF hg HB
 go_loopw [4] (fun v wr=>∃ i:Nat,v = .int .i64 i∧i≤5∧Hid (Nx W wr)) (fun v _=>(5 - intOf v).toNat)
 case atStart=>exact ⟨0,rfl,by decide,Lib.hid (Nx.refl _)⟩
 case round =>
  obtain ⟨i,rfl,hi,HN⟩:=hrel
  by_cases hlt:i<5
  ·obtain ⟨⟨xi,xs,xd⟩,f,t,hrf,hok,hpr,hlen,hcel,htx⟩:=HL.out i hlt
   have q1:decide ((i:Int)<5)=true:=decide_eq_true (by omega)
   have q2:(i:Int)<5:=by omega
   have e0:∀ y:Gr wr,y.1.cell? ⟨gF,i * 3,none⟩=some xi:=fun y=>((HN.out.trans y.2).cell (p:=⟨gF,i * 3,none⟩) (by have:=HSZ.out;show gF<_;omega)).trans (hcel 0 (by decide))
   have e1:∀ y:Gr wr,y.1.cell? ⟨gF,i * 3+1,none⟩=some xs:=fun y=>((HN.out.trans y.2).cell (p:=⟨gF,i * 3+1,none⟩) (by have:=HSZ.out;show gF<_;omega)).trans (hcel 1 (by decide))
   have e2:∀ y:Gr wr,y.1.cell? ⟨gF,i * 3+2,none⟩=some xd:=fun y=>((HN.out.trans y.2).cell (p:=⟨gF,i * 3+2,none⟩) (by have:=HSZ.out;show gF<_;omega)).trans (hcel 2 (by decide))
   have e3:∀ y:Gr wr,y.1.cell? ⟨gF+1,i,none⟩=some (.string ⟨t.toArray⟩):=fun y=>((HN.out.trans y.2).cell (p:=⟨gF+1,i,none⟩) HSZ.out).trans htx
   have hcall:∀ w4,Nx wr w4→Calls Tryz.prog 23 #[.agg #[xi,xs,xd]] w4 fun e w'=>e = .returned (.string ⟨t.toArray⟩)∧Nx w4 w':=fun w4 h4=>by
    have:=print_any HSH.out w4 An ⟨xi,xs,xd⟩ f (TabB.of HT.out w4 ((HWN.out.trans HN.out).trans h4)) (RFile.lasts (mvAn (HN.out.trans h4)) hrf) hok (by rw [hpr];omega)
    rw [hpr] at this;exact this
   have HC:=Lib.hid hcall
   clear hcall hrf hok hpr hlen hcel htx
   go_wp2_with fail
   refine wp_region_hyb [(0,true),(1,true),(2,true),(3,true),(5,true),(6,true),(7,true),(8,true),(4,false),(9,true)] (by kernel_rfl) (by kernel_rfl) ?_
   iterate 8 (refine hyb_calm rfl (fun K hK=>?_);go_simp;refine hK _ ?_;clear hK K)
   refine hyb_alone rfl (fun w4 hn4 K hK=>?_)
   go_simp
   refine (HC.out w4 hn4).mono ?_;rintro e w5 ⟨rfl,hn5⟩
   refine hK _ _ hn5 ?_
   clear hK K
   iterate 1 (refine hyb_calm rfl (fun K hK=>?_);go_simp;refine hK _ ?_;clear hK K)
   refine hyb_nil (fun w8 hn8=>?_)
   have HNN:=Lib.hid (((HN.out.trans hn4).trans hn5).trans hn8)
   clear hn4 hn5 hn8 e0 e1 e2 e3
   go_wp2_with fail
   go_roundw
   case rel=>exact ⟨i+1,by go_num,hlt,HNN⟩
   case measure=>simp [intOf];omega
  ·obtain rfl:i=5:=by omega
   have q1:decide ((5:Int)<5)=false:=by decide
   clear hlt hi HL
   have hc1:=printConst_any HSH.out 1 wr An ⟨3,0,0,[97,34,98],nV⟩ (.mk 3 0 0 [97,34,98] []) (TabB.of HT.out wr (HWN.out.trans HN.out)) (rc1 0 3 0 0 [97,34,98]) ⟨by decide,by decide,by decide,by decide,by decide,fun y hy=>by cases hy⟩ (by rw [fc0];decide)
   rw [fc0] at hc1
   have HC1:=Lib.hid hc1
   clear hc1
   go_wp2_with fail
   refine HC1.out.mono ?_;rintro e w2 ⟨rfl,hx⟩
   have HN2:=Lib.hid (HN.out.trans hx)
   clear hx HC1
   have c0:w2.cell? ⟨g,0,none⟩=some (.int .i64 1):=(HBC.out.below HN2.out).cell 0
   have c1:w2.cell? ⟨g,1,none⟩=some (.int .i64 7):=(HBC.out.below HN2.out).cell 1
   have c2:w2.cell? ⟨g,2,none⟩=some (.int .u64 0):=(HBC.out.below HN2.out).cell 2
   have c3:w2.cell? ⟨g,3,none⟩=some (.string ⟨#[]⟩):=(HBC.out.below HN2.out).cell 3
   have c4:w2.cell? ⟨g,4,none⟩=some (.slice none 0 0):=(HBC.out.below HN2.out).cell 4
   go_wp2_with fail
   obtain ⟨m,hm⟩:∃ m,w2.heap.size=m:=⟨_,rfl⟩
   have hb:=heap_alloc_new w2 (.cells (rowL conA [⟨1,7,0,[],nV⟩,⟨1,7,0,[],nV⟩,⟨1,7,0,[],nV⟩,⟨1,7,0,[],nV⟩]).toArray 48)
   have hx:Nx w2 (w2.alloc (.cells (rowL conA [⟨1,7,0,[],nV⟩,⟨1,7,0,[],nV⟩,⟨1,7,0,[],nV⟩,⟨1,7,0,[],nV⟩]).toArray 48)):=nx0 _ _
   obtain ⟨w3,hw3⟩:∃ w3,w2.alloc (.cells (rowL conA [⟨1,7,0,[],nV⟩,⟨1,7,0,[],nV⟩,⟨1,7,0,[],nV⟩,⟨1,7,0,[],nV⟩]).toArray 48)=w3:=⟨_,rfl⟩
   rw [hw3,hm] at hb
   rw [hw3] at hx
   have hE:w2.alloc (.cells #[.int .i64 1,.int .i64 7,.int .u64 0,.string ⟨#[]⟩,.slice none 0 0,.int .i64 1,.int .i64 7,.int .u64 0,.string ⟨#[]⟩,.slice none 0 0,.int .i64 1,.int .i64 7,.int .u64 0,.string ⟨#[]⟩,.slice none 0 0,.int .i64 1,.int .i64 7,.int .u64 0,.string ⟨#[]⟩,.slice none 0 0] 48)=w3:=hw3
   rw [hm,hE]
   have hc2:=printConst_any HSH.out 2 w3 An ⟨6,0,0,[],.slice (some ⟨m,0,none⟩) 4 4⟩ (.mk 6 0 0 [] [C7,C7,C7,C7]) (TabB.of HT.out w3 ((HWN.out.trans HN2.out).trans hx)) (RC.mk (RepL.built conA_size (xs:=[⟨1,7,0,[],nV⟩,⟨1,7,0,[],nV⟩,⟨1,7,0,[],nV⟩,⟨1,7,0,[],nV⟩]) rfl hb trivial (show 4≤maxLen by decide) ⟨rc1 0 1 7 0 [],rc1 0 1 7 0 [],rc1 0 1 7 0 [],rc1 0 1 7 0 [],trivial⟩)) (by simp [prC,C7]) (by rw [fc1];decide)
   rw [fc1] at hc2
   have HC2:=Lib.hid hc2
   have HN3:=Lib.hid (HN2.out.trans hx)
   clear hc2 hx hE hw3 hb hm c0 c1 c2 c3 c4
   refine HC2.out.mono ?_;rintro e w4 ⟨rfl,hx⟩
   have HN4:=Lib.hid (HN3.out.trans hx)
   clear hx HC2
   have hc3:=printConst_any HSH.out 1 w4 An ⟨2,0,4607182418800017408,[],nV⟩ (.mk 2 0 4607182418800017408 [] []) (TabB.of HT.out w4 (HWN.out.trans HN4.out)) (rc1 0 2 0 4607182418800017408 []) (by simp [prC]) (by rw [fc2 HSH.out];decide)
   rw [fc2 HSH.out] at hc3
   have HC3:=Lib.hid hc3
   clear hc3
   go_wp2_with fail
   refine HC3.out.mono ?_;rintro e w5 ⟨rfl,hx⟩
   have HN5:=Lib.hid (HN4.out.trans hx)
   clear hx HC3
   go_wp2_with fail
   go_ret
   exact ⟨rfl,HWN.out.trans HN5.out⟩
end Go.Proofs.YtjggghfekakogaaGreatDoor
namespace Go.Proofs.YtjggghfekakogaaGreatDoor
open Go.RowKit
noncomputable def shW (B:Nat):List UInt8:=Classical.epsilon (ShowR B)
theorem shW_is:∀ B l,ShowR B l→l=shW B:=fun B l h=>showR_one h (Classical.epsilon_spec ⟨l,h⟩)
theorem PrintForms_walk (w:World) (ht:Tab w) :
  Calls Tryz.prog 9 #[] w fun e w'=>e = .returned (.bool true)∧Below w.heap.size w w':=pf_walk shW_is w ht
end Go.Proofs.YtjggghfekakogaaGreatDoor
