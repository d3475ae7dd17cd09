/- BundleForms: the law returns true and leaves memory as it was. -/
import Derived.Test.YtpbjkgpdkopgmaaGreatDoorG32
set_option linter.unusedVariables false
set_option linter.unusedSimpArgs false
set_option linter.unnecessarySimpa false
namespace Go.Proofs.YtpbjkgpdkopgmaaGreatDoor
open Go.RowKit
theorem outV_res {root:List UInt8} {l:List (List UInt8×List UInt8)} {e:Nat} {f:List UInt8} {a:Nat} (h:resV root l=(e,f,a)) (k:e=0→f=[]∧a=0):(outV root l).e=e∧(outV root l).file=f∧(outV root l).at_=a:=by
 unfold resV at h
 simp only [Prod.mk.injEq] at h
 obtain ⟨h1,h2,h3⟩:=h
 unfold outV
 by_cases he:e=0
 ·obtain ⟨rfl,rfl⟩:=k he
  subst he
  rw [if_pos h1];exact ⟨rfl,rfl,rfl⟩
 ·rw [if_neg (by rw [h1];exact he)];exact ⟨h1,h2,h3⟩
theorem rdq_new (w:World) (arr:Array Value) (T:TypeId) (xs:List (List UInt8×List UInt8)) (h:∀ i (hi:i<xs.length),arr[i * 2]? = some (bt xs[i].1)∧arr[i * 2+1]? = some (bt xs[i].2)) (h0:xs.length=0∨0<xs.length) :
  RdQ (w.alloc (.cells arr T)) (some ⟨w.heap.size,0,none⟩) xs:=fun hx=>⟨w.heap.size,0,rfl,by simp,fun i hi=>by
   have hb:=Blk.new w arr T
   rw [Nat.zero_add]
   exact ⟨(hb.cell (i * 2)).trans (h i hi).1,(hb.cell (i * 2+1)).trans (h i hi).2⟩⟩
def bl0:List (List UInt8×List UInt8):=[([97],[105,110,99,108,117,100,101,32,39,98,39]),([98],[115,116,114,117,99,116,32,65,32,123]),([99],[])]
theorem bq_0 (w:World):RdQ (w.alloc (.cells #[.string ⟨#[97]⟩,.string ⟨#[105,110,99,108,117,100,101,32,39,98,39]⟩,.string ⟨#[98]⟩,.string ⟨#[115,116,114,117,99,116,32,65,32,123]⟩,.string ⟨#[99]⟩,.string ⟨#[]⟩] 9)) (some ⟨w.heap.size,0,none⟩) bl0 :=
 rdq_new w _ _ _ (fun i hi=>match i,hi with | 0,_=>⟨rfl,rfl⟩ | 1,_=>⟨rfl,rfl⟩ | 2,_=>⟨rfl,rfl⟩ | n+3,h=>absurd h (by simp [bl0])) (.inr (by decide))
theorem bo_0:SrcOk bl0:=by
 intro x hx
 simp only [bl0,List.mem_cons,List.not_mem_nil,or_false] at hx
 rcases hx with rfl | rfl | rfl <;> exact ⟨by decide,by decide⟩
def bl1:List (List UInt8×List UInt8):=[([97],[]),([97],[])]
theorem bq_1 (w:World):RdQ (w.alloc (.cells #[.string ⟨#[97]⟩,.string ⟨#[]⟩,.string ⟨#[97]⟩,.string ⟨#[]⟩] 9)) (some ⟨w.heap.size,0,none⟩) bl1 :=
 rdq_new w _ _ _ (fun i hi=>match i,hi with | 0,_=>⟨rfl,rfl⟩ | 1,_=>⟨rfl,rfl⟩ | n+2,h=>absurd h (by simp [bl1])) (.inr (by decide))
theorem bo_1:SrcOk bl1:=by
 intro x hx
 simp only [bl1,List.mem_cons,List.not_mem_nil,or_false] at hx
 rcases hx with rfl | rfl <;> exact ⟨by decide,by decide⟩
def bl2:List (List UInt8×List UInt8):=[([97],[]),([98,46,99],[])]
theorem bq_2 (w:World):RdQ (w.alloc (.cells #[.string ⟨#[97]⟩,.string ⟨#[]⟩,.string ⟨#[98,46,99]⟩,.string ⟨#[]⟩] 9)) (some ⟨w.heap.size,0,none⟩) bl2 :=
 rdq_new w _ _ _ (fun i hi=>match i,hi with | 0,_=>⟨rfl,rfl⟩ | 1,_=>⟨rfl,rfl⟩ | n+2,h=>absurd h (by simp [bl2])) (.inr (by decide))
theorem bo_2:SrcOk bl2:=by
 intro x hx
 simp only [bl2,List.mem_cons,List.not_mem_nil,or_false] at hx
 rcases hx with rfl | rfl <;> exact ⟨by decide,by decide⟩
def bl3:List (List UInt8×List UInt8):=[([97],[105,110,99,108,117,100,101,32,39,97,39])]
theorem bq_3 (w:World):RdQ (w.alloc (.cells #[.string ⟨#[97]⟩,.string ⟨#[105,110,99,108,117,100,101,32,39,97,39]⟩] 9)) (some ⟨w.heap.size,0,none⟩) bl3 :=
 rdq_new w _ _ _ (fun i hi=>match i,hi with | 0,_=>⟨rfl,rfl⟩ | n+1,h=>absurd h (by simp [bl3])) (.inr (by decide))
theorem bo_3:SrcOk bl3:=by
 intro x hx
 simp only [bl3,List.mem_cons,List.not_mem_nil,or_false] at hx
 rcases hx with rfl <;> exact ⟨by decide,by decide⟩
def bl4:List (List UInt8×List UInt8):=[([97],[105,110,99,108,117,100,101,32,39,122,39])]
theorem bq_4 (w:World):RdQ (w.alloc (.cells #[.string ⟨#[97]⟩,.string ⟨#[105,110,99,108,117,100,101,32,39,122,39]⟩] 9)) (some ⟨w.heap.size,0,none⟩) bl4 :=
 rdq_new w _ _ _ (fun i hi=>match i,hi with | 0,_=>⟨rfl,rfl⟩ | n+1,h=>absurd h (by simp [bl4])) (.inr (by decide))
theorem bo_4:SrcOk bl4:=by
 intro x hx
 simp only [bl4,List.mem_cons,List.not_mem_nil,or_false] at hx
 rcases hx with rfl <;> exact ⟨by decide,by decide⟩
def bl5:List (List UInt8×List UInt8):=[([97],[105,110,99,108,117,100,101,32,39,98,39]),([98],[105,110,99,108,117,100,101,32,39,97,39])]
theorem bq_5 (w:World):RdQ (w.alloc (.cells #[.string ⟨#[97]⟩,.string ⟨#[105,110,99,108,117,100,101,32,39,98,39]⟩,.string ⟨#[98]⟩,.string ⟨#[105,110,99,108,117,100,101,32,39,97,39]⟩] 9)) (some ⟨w.heap.size,0,none⟩) bl5 :=
 rdq_new w _ _ _ (fun i hi=>match i,hi with | 0,_=>⟨rfl,rfl⟩ | 1,_=>⟨rfl,rfl⟩ | n+2,h=>absurd h (by simp [bl5])) (.inr (by decide))
theorem bo_5:SrcOk bl5:=by
 intro x hx
 simp only [bl5,List.mem_cons,List.not_mem_nil,or_false] at hx
 rcases hx with rfl | rfl <;> exact ⟨by decide,by decide⟩
def bl6:List (List UInt8×List UInt8):=[([97],[])]
theorem bq_6 (w:World):RdQ (w.alloc (.cells #[.string ⟨#[97]⟩,.string ⟨#[]⟩] 9)) (some ⟨w.heap.size,0,none⟩) bl6 :=
 rdq_new w _ _ _ (fun i hi=>match i,hi with | 0,_=>⟨rfl,rfl⟩ | n+1,h=>absurd h (by simp [bl6])) (.inr (by decide))
theorem bo_6:SrcOk bl6:=by
 intro x hx
 simp only [bl6,List.mem_cons,List.not_mem_nil,or_false] at hx
 rcases hx with rfl <;> exact ⟨by decide,by decide⟩
def bl7:List (List UInt8×List UInt8):=[([97],[]),([98],[]),([99],[]),([100],[]),([101],[]),([102],[])]
theorem bq_7 (w:World):RdQ (w.alloc (.cells #[.string ⟨#[97]⟩,.string ⟨#[]⟩,.string ⟨#[98]⟩,.string ⟨#[]⟩,.string ⟨#[99]⟩,.string ⟨#[]⟩,.string ⟨#[100]⟩,.string ⟨#[]⟩,.string ⟨#[101]⟩,.string ⟨#[]⟩,.string ⟨#[102]⟩,.string ⟨#[]⟩] 9)) (some ⟨w.heap.size,0,none⟩) bl7 :=
 rdq_new w _ _ _ (fun i hi=>match i,hi with | 0,_=>⟨rfl,rfl⟩ | 1,_=>⟨rfl,rfl⟩ | 2,_=>⟨rfl,rfl⟩ | 3,_=>⟨rfl,rfl⟩ | 4,_=>⟨rfl,rfl⟩ | 5,_=>⟨rfl,rfl⟩ | n+6,h=>absurd h (by simp [bl7])) (.inr (by decide))
theorem bo_7:SrcOk bl7:=by
 intro x hx
 simp only [bl7,List.mem_cons,List.not_mem_nil,or_false] at hx
 rcases hx with rfl | rfl | rfl | rfl | rfl | rfl <;> exact ⟨by decide,by decide⟩
def bl8:List (List UInt8×List UInt8):=[([97],[]),([115,116,114,117,99,116],[])]
theorem bq_8 (w:World):RdQ (w.alloc (.cells #[.string ⟨#[97]⟩,.string ⟨#[]⟩,.string ⟨#[115,116,114,117,99,116]⟩,.string ⟨#[]⟩] 9)) (some ⟨w.heap.size,0,none⟩) bl8 :=
 rdq_new w _ _ _ (fun i hi=>match i,hi with | 0,_=>⟨rfl,rfl⟩ | 1,_=>⟨rfl,rfl⟩ | n+2,h=>absurd h (by simp [bl8])) (.inr (by decide))
theorem bo_8:SrcOk bl8:=by
 intro x hx
 simp only [bl8,List.mem_cons,List.not_mem_nil,or_false] at hx
 rcases hx with rfl | rfl <;> exact ⟨by decide,by decide⟩
set_option maxRecDepth 100000 in
set_option maxHeartbeats 12800000 in
theorem BundleForms_walk (w:World) (ht:TabK w) (hm:MaxC w) :
  Calls Tryz.prog 7 #[] w fun e w'=>e = .returned (.bool true)∧Below w.heap.size w w':=by
 have HT:=Lib.hid ht
 have HM:=Lib.hid hm
 clear ht hm
 go_enter Tryz.func7,Tryz.ntmps7
 go_wp2_with fail
 refine (bubegun_any w HT.out HM.out).mono ?_;rintro e w0 ⟨rfl,hb⟩
 have HN0:=Lib.hid hb
 clear hb
 go_wp2_with fail
 refine (sources_any _ _ _ _ 3 bl0 rfl rfl (bq_0 _) (by decide)).mono ?_;rintro e w1 ⟨v,rfl,hl,hn⟩
 obtain ⟨A0,c0,rfl,hr⟩:=hl.rdq
 have HR0:=Lib.hid hr
 have HN1:Hid (Nx w0 w1):=Nx.trans (nx0 _ _) hn
 rw [show bl0.length=3 from rfl]
 clear hl hr hn
 go_wp2_with fail
 refine (sources_any _ _ _ _ 2 bl1 rfl rfl (bq_1 _) (by decide)).mono ?_;rintro e w2 ⟨v,rfl,hl,hn⟩
 obtain ⟨A1,c1,rfl,hr⟩:=hl.rdq
 have HR1:=Lib.hid hr
 have HN2:Hid (Nx w1 w2):=Nx.trans (nx0 _ _) hn
 rw [show bl1.length=2 from rfl]
 clear hl hr hn
 go_wp2_with fail
 refine (sources_any _ _ _ _ 2 bl2 rfl rfl (bq_2 _) (by decide)).mono ?_;rintro e w3 ⟨v,rfl,hl,hn⟩
 obtain ⟨A2,c2,rfl,hr⟩:=hl.rdq
 have HR2:=Lib.hid hr
 have HN3:Hid (Nx w2 w3):=Nx.trans (nx0 _ _) hn
 rw [show bl2.length=2 from rfl]
 clear hl hr hn
 go_wp2_with fail
 refine (sources_any _ _ _ _ 1 bl3 rfl rfl (bq_3 _) (by decide)).mono ?_;rintro e w4 ⟨v,rfl,hl,hn⟩
 obtain ⟨A3,c3,rfl,hr⟩:=hl.rdq
 have HR3:=Lib.hid hr
 have HN4:Hid (Nx w3 w4):=Nx.trans (nx0 _ _) hn
 rw [show bl3.length=1 from rfl]
 clear hl hr hn
 go_wp2_with fail
 refine (sources_any _ _ _ _ 1 bl4 rfl rfl (bq_4 _) (by decide)).mono ?_;rintro e w5 ⟨v,rfl,hl,hn⟩
 obtain ⟨A4,c4,rfl,hr⟩:=hl.rdq
 have HR4:=Lib.hid hr
 have HN5:Hid (Nx w4 w5):=Nx.trans (nx0 _ _) hn
 rw [show bl4.length=1 from rfl]
 clear hl hr hn
 go_wp2_with fail
 refine (sources_any _ _ _ _ 2 bl5 rfl rfl (bq_5 _) (by decide)).mono ?_;rintro e w6 ⟨v,rfl,hl,hn⟩
 obtain ⟨A5,c5,rfl,hr⟩:=hl.rdq
 have HR5:=Lib.hid hr
 have HN6:Hid (Nx w5 w6):=Nx.trans (nx0 _ _) hn
 rw [show bl5.length=2 from rfl]
 clear hl hr hn
 go_wp2_with fail
 refine (sources_any _ _ _ _ 1 bl6 rfl rfl (bq_6 _) (by decide)).mono ?_;rintro e w7 ⟨v,rfl,hl,hn⟩
 obtain ⟨A6,c6,rfl,hr⟩:=hl.rdq
 have HR6:=Lib.hid hr
 have HN7:Hid (Nx w6 w7):=Nx.trans (nx0 _ _) hn
 rw [show bl6.length=1 from rfl]
 clear hl hr hn
 go_wp2_with fail
 refine (sources_any _ _ _ _ 6 bl7 rfl rfl (bq_7 _) (by decide)).mono ?_;rintro e w8 ⟨v,rfl,hl,hn⟩
 obtain ⟨A7,c7,rfl,hr⟩:=hl.rdq
 have HR7:=Lib.hid hr
 have HN8:Hid (Nx w7 w8):=Nx.trans (nx0 _ _) hn
 rw [show bl7.length=6 from rfl]
 clear hl hr hn
 go_wp2_with fail
 refine (sources_any _ _ _ _ 2 bl8 rfl rfl (bq_8 _) (by decide)).mono ?_;rintro e w9 ⟨v,rfl,hl,hn⟩
 obtain ⟨A8,c8,rfl,hr⟩:=hl.rdq
 have HR8:=Lib.hid hr
 have HN9:Hid (Nx w8 w9):=Nx.trans (nx0 _ _) hn
 rw [show bl8.length=2 from rfl]
 clear hl hr hn
 go_upto_region 5 with (fail)
 obtain ⟨g,hg⟩:∃ g,w9.heap.size=g:=⟨_,rfl⟩
 obtain ⟨g1,hg1⟩:∃ x,g+1=x:=⟨_,rfl⟩
 obtain ⟨g2,hg2⟩:∃ x,g1+1=x:=⟨_,rfl⟩
 obtain ⟨g3,hg3⟩:∃ x,g2+1=x:=⟨_,rfl⟩
 go_upto_region 8 with (fail)
 rw [hg]
 obtain ⟨W,hW⟩:∃ W,(((w9.alloc (.cells #[.string ⟨#[97]⟩,.slice none 0 0,.string ⟨#[97]⟩,.slice A0 3 c0,.string ⟨#[99]⟩,.slice A0 3 c0,.string ⟨#[97]⟩,.slice A1 2 c1,.string ⟨#[97]⟩,.slice A2 2 c2,.string ⟨#[97]⟩,.slice A3 1 c3,.string ⟨#[97]⟩,.slice A4 1 c4,.string ⟨#[97]⟩,.slice A5 2 c5,.string ⟨#[]⟩,.slice A6 1 c6,.string ⟨#[97]⟩,.slice A7 6 c7,.string ⟨#[97]⟩,.slice A8 2 c8] 41)).alloc (.cells #[.int .i64 15,.int .i64 2,.int .i64 0,.int .i64 8,.int .i64 2,.int .i64 9,.int .i64 15,.int .i64 9,.int .i64 15,.int .i64 4,.int .i64 2] 34)).alloc (.cells #[.string ⟨#[97]⟩,.string ⟨#[98]⟩,.string ⟨#[]⟩,.string ⟨#[97]⟩,.string ⟨#[98,46,99]⟩,.string ⟨#[97]⟩,.string ⟨#[97]⟩,.string ⟨#[98]⟩,.string ⟨#[]⟩,.string ⟨#[]⟩,.string ⟨#[115,116,114,117,99,116]⟩] 9)).alloc (.cells #[.int .i64 0,.int .i64 10,.int .i64 0,.int .i64 0,.int .i64 0,.int .i64 0,.int .i64 0,.int .i64 0,.int .i64 0,.int .i64 0,.int .i64 0] 3)=W:=⟨_,rfl⟩
 rw [hW]
 have HB0:Hid (Blk W g g #[.string ⟨#[97]⟩,.slice none 0 0,.string ⟨#[97]⟩,.slice A0 3 c0,.string ⟨#[99]⟩,.slice A0 3 c0,.string ⟨#[97]⟩,.slice A1 2 c1,.string ⟨#[97]⟩,.slice A2 2 c2,.string ⟨#[97]⟩,.slice A3 1 c3,.string ⟨#[97]⟩,.slice A4 1 c4,.string ⟨#[97]⟩,.slice A5 2 c5,.string ⟨#[]⟩,.slice A6 1 c6,.string ⟨#[97]⟩,.slice A7 6 c7,.string ⟨#[97]⟩,.slice A8 2 c8] 41):=by
  unfold Hid;rw [← hW,← hg];exact (((Blk.new w9 _ _).alloc _).alloc _).alloc _
 have HB1:Hid (Blk W g g1 #[.int .i64 15,.int .i64 2,.int .i64 0,.int .i64 8,.int .i64 2,.int .i64 9,.int .i64 15,.int .i64 9,.int .i64 15,.int .i64 4,.int .i64 2] 34):=by
  unfold Hid;rw [← hW,← hg1,← hg,show w9.heap.size+1=(w9.alloc (.cells #[.string ⟨#[97]⟩,.slice none 0 0,.string ⟨#[97]⟩,.slice A0 3 c0,.string ⟨#[99]⟩,.slice A0 3 c0,.string ⟨#[97]⟩,.slice A1 2 c1,.string ⟨#[97]⟩,.slice A2 2 c2,.string ⟨#[97]⟩,.slice A3 1 c3,.string ⟨#[97]⟩,.slice A4 1 c4,.string ⟨#[97]⟩,.slice A5 2 c5,.string ⟨#[]⟩,.slice A6 1 c6,.string ⟨#[97]⟩,.slice A7 6 c7,.string ⟨#[97]⟩,.slice A8 2 c8] 41)).heap.size from by simp]
  exact (((Blk.new (w9.alloc (.cells #[.string ⟨#[97]⟩,.slice none 0 0,.string ⟨#[97]⟩,.slice A0 3 c0,.string ⟨#[99]⟩,.slice A0 3 c0,.string ⟨#[97]⟩,.slice A1 2 c1,.string ⟨#[97]⟩,.slice A2 2 c2,.string ⟨#[97]⟩,.slice A3 1 c3,.string ⟨#[97]⟩,.slice A4 1 c4,.string ⟨#[97]⟩,.slice A5 2 c5,.string ⟨#[]⟩,.slice A6 1 c6,.string ⟨#[97]⟩,.slice A7 6 c7,.string ⟨#[97]⟩,.slice A8 2 c8] 41)) _ _).alloc _).alloc _).less (by simp)
 have HB2:Hid (Blk W g g2 #[.string ⟨#[97]⟩,.string ⟨#[98]⟩,.string ⟨#[]⟩,.string ⟨#[97]⟩,.string ⟨#[98,46,99]⟩,.string ⟨#[97]⟩,.string ⟨#[97]⟩,.string ⟨#[98]⟩,.string ⟨#[]⟩,.string ⟨#[]⟩,.string ⟨#[115,116,114,117,99,116]⟩] 9):=by
  unfold Hid;rw [← hW,← hg2,← hg1,← hg,show w9.heap.size+1+1=((w9.alloc (.cells #[.string ⟨#[97]⟩,.slice none 0 0,.string ⟨#[97]⟩,.slice A0 3 c0,.string ⟨#[99]⟩,.slice A0 3 c0,.string ⟨#[97]⟩,.slice A1 2 c1,.string ⟨#[97]⟩,.slice A2 2 c2,.string ⟨#[97]⟩,.slice A3 1 c3,.string ⟨#[97]⟩,.slice A4 1 c4,.string ⟨#[97]⟩,.slice A5 2 c5,.string ⟨#[]⟩,.slice A6 1 c6,.string ⟨#[97]⟩,.slice A7 6 c7,.string ⟨#[97]⟩,.slice A8 2 c8] 41)).alloc (.cells #[.int .i64 15,.int .i64 2,.int .i64 0,.int .i64 8,.int .i64 2,.int .i64 9,.int .i64 15,.int .i64 9,.int .i64 15,.int .i64 4,.int .i64 2] 34)).heap.size from by simp]
  exact ((Blk.new ((w9.alloc (.cells #[.string ⟨#[97]⟩,.slice none 0 0,.string ⟨#[97]⟩,.slice A0 3 c0,.string ⟨#[99]⟩,.slice A0 3 c0,.string ⟨#[97]⟩,.slice A1 2 c1,.string ⟨#[97]⟩,.slice A2 2 c2,.string ⟨#[97]⟩,.slice A3 1 c3,.string ⟨#[97]⟩,.slice A4 1 c4,.string ⟨#[97]⟩,.slice A5 2 c5,.string ⟨#[]⟩,.slice A6 1 c6,.string ⟨#[97]⟩,.slice A7 6 c7,.string ⟨#[97]⟩,.slice A8 2 c8] 41)).alloc (.cells #[.int .i64 15,.int .i64 2,.int .i64 0,.int .i64 8,.int .i64 2,.int .i64 9,.int .i64 15,.int .i64 9,.int .i64 15,.int .i64 4,.int .i64 2] 34)) _ _).alloc _).less (by simp;omega)
 have HB3:Hid (Blk W g g3 #[.int .i64 0,.int .i64 10,.int .i64 0,.int .i64 0,.int .i64 0,.int .i64 0,.int .i64 0,.int .i64 0,.int .i64 0,.int .i64 0,.int .i64 0] 3):=by
  unfold Hid;rw [← hW,← hg3,← hg2,← hg1,← hg,show w9.heap.size+1+1+1=(((w9.alloc (.cells #[.string ⟨#[97]⟩,.slice none 0 0,.string ⟨#[97]⟩,.slice A0 3 c0,.string ⟨#[99]⟩,.slice A0 3 c0,.string ⟨#[97]⟩,.slice A1 2 c1,.string ⟨#[97]⟩,.slice A2 2 c2,.string ⟨#[97]⟩,.slice A3 1 c3,.string ⟨#[97]⟩,.slice A4 1 c4,.string ⟨#[97]⟩,.slice A5 2 c5,.string ⟨#[]⟩,.slice A6 1 c6,.string ⟨#[97]⟩,.slice A7 6 c7,.string ⟨#[97]⟩,.slice A8 2 c8] 41)).alloc (.cells #[.int .i64 15,.int .i64 2,.int .i64 0,.int .i64 8,.int .i64 2,.int .i64 9,.int .i64 15,.int .i64 9,.int .i64 15,.int .i64 4,.int .i64 2] 34)).alloc (.cells #[.string ⟨#[97]⟩,.string ⟨#[98]⟩,.string ⟨#[]⟩,.string ⟨#[97]⟩,.string ⟨#[98,46,99]⟩,.string ⟨#[97]⟩,.string ⟨#[97]⟩,.string ⟨#[98]⟩,.string ⟨#[]⟩,.string ⟨#[]⟩,.string ⟨#[115,116,114,117,99,116]⟩] 9)).heap.size from by simp]
  exact (Blk.new (((w9.alloc (.cells #[.string ⟨#[97]⟩,.slice none 0 0,.string ⟨#[97]⟩,.slice A0 3 c0,.string ⟨#[99]⟩,.slice A0 3 c0,.string ⟨#[97]⟩,.slice A1 2 c1,.string ⟨#[97]⟩,.slice A2 2 c2,.string ⟨#[97]⟩,.slice A3 1 c3,.string ⟨#[97]⟩,.slice A4 1 c4,.string ⟨#[97]⟩,.slice A5 2 c5,.string ⟨#[]⟩,.slice A6 1 c6,.string ⟨#[97]⟩,.slice A7 6 c7,.string ⟨#[97]⟩,.slice A8 2 c8] 41)).alloc (.cells #[.int .i64 15,.int .i64 2,.int .i64 0,.int .i64 8,.int .i64 2,.int .i64 9,.int .i64 15,.int .i64 9,.int .i64 15,.int .i64 4,.int .i64 2] 34)).alloc (.cells #[.string ⟨#[97]⟩,.string ⟨#[98]⟩,.string ⟨#[]⟩,.string ⟨#[97]⟩,.string ⟨#[98,46,99]⟩,.string ⟨#[97]⟩,.string ⟨#[97]⟩,.string ⟨#[98]⟩,.string ⟨#[]⟩,.string ⟨#[]⟩,.string ⟨#[115,116,114,117,99,116]⟩] 9)) _ _).less (by simp;omega)
 have HNW:Hid (Nx w9 W):=by unfold Hid;rw [← hW];exact Nx.al (Nx.al (Nx.al (nx0 _ _) _) _) _
 have HR0:=Lib.hid (HR0.out.nx (((((((((HN2.out).trans HN3.out).trans HN4.out).trans HN5.out).trans HN6.out).trans HN7.out).trans HN8.out).trans HN9.out).trans HNW.out))
 have HR1:=Lib.hid (HR1.out.nx ((((((((HN3.out).trans HN4.out).trans HN5.out).trans HN6.out).trans HN7.out).trans HN8.out).trans HN9.out).trans HNW.out))
 have HR2:=Lib.hid (HR2.out.nx (((((((HN4.out).trans HN5.out).trans HN6.out).trans HN7.out).trans HN8.out).trans HN9.out).trans HNW.out))
 have HR3:=Lib.hid (HR3.out.nx ((((((HN5.out).trans HN6.out).trans HN7.out).trans HN8.out).trans HN9.out).trans HNW.out))
 have HR4:=Lib.hid (HR4.out.nx (((((HN6.out).trans HN7.out).trans HN8.out).trans HN9.out).trans HNW.out))
 have HR5:=Lib.hid (HR5.out.nx ((((HN7.out).trans HN8.out).trans HN9.out).trans HNW.out))
 have HR6:=Lib.hid (HR6.out.nx (((HN8.out).trans HN9.out).trans HNW.out))
 have HR7:=Lib.hid (HR7.out.nx ((HN9.out).trans HNW.out))
 have HR8:=Lib.hid (HR8.out.nx (HNW.out))
 have HN:=Lib.hid (((((((((((HN0.out).trans HN1.out).trans HN2.out).trans HN3.out).trans HN4.out).trans HN5.out).trans HN6.out).trans HN7.out).trans HN8.out).trans HN9.out).trans HNW.out)
 clear hW hg hg1 hg2 hg3 HNW HN0 HN1 HN2 HN3 HN4 HN5 HN6 HN7 HN8 HN9
 have HG:Hid (∀ i,i<11→∃ (root:List UInt8) (xs:List (List UInt8×List UInt8)) (n:Nat) (A:Option Addr) (c e:Nat) (f:List UInt8) (p:Nat),(#[.string ⟨#[97]⟩,.slice none 0 0,.string ⟨#[97]⟩,.slice A0 3 c0,.string ⟨#[99]⟩,.slice A0 3 c0,.string ⟨#[97]⟩,.slice A1 2 c1,.string ⟨#[97]⟩,.slice A2 2 c2,.string ⟨#[97]⟩,.slice A3 1 c3,.string ⟨#[97]⟩,.slice A4 1 c4,.string ⟨#[97]⟩,.slice A5 2 c5,.string ⟨#[]⟩,.slice A6 1 c6,.string ⟨#[97]⟩,.slice A7 6 c7,.string ⟨#[97]⟩,.slice A8 2 c8]:Array Value)[i * 2]? = some (.string ⟨root.toArray⟩)∧(#[.string ⟨#[97]⟩,.slice none 0 0,.string ⟨#[97]⟩,.slice A0 3 c0,.string ⟨#[99]⟩,.slice A0 3 c0,.string ⟨#[97]⟩,.slice A1 2 c1,.string ⟨#[97]⟩,.slice A2 2 c2,.string ⟨#[97]⟩,.slice A3 1 c3,.string ⟨#[97]⟩,.slice A4 1 c4,.string ⟨#[97]⟩,.slice A5 2 c5,.string ⟨#[]⟩,.slice A6 1 c6,.string ⟨#[97]⟩,.slice A7 6 c7,.string ⟨#[97]⟩,.slice A8 2 c8]:Array Value)[i * 2+1]? = some (.slice A n c) ∧
   (#[.int .i64 15,.int .i64 2,.int .i64 0,.int .i64 8,.int .i64 2,.int .i64 9,.int .i64 15,.int .i64 9,.int .i64 15,.int .i64 4,.int .i64 2]:Array Value)[i]? = some (.int .i64 (e:Int))∧(#[.string ⟨#[97]⟩,.string ⟨#[98]⟩,.string ⟨#[]⟩,.string ⟨#[97]⟩,.string ⟨#[98,46,99]⟩,.string ⟨#[97]⟩,.string ⟨#[97]⟩,.string ⟨#[98]⟩,.string ⟨#[]⟩,.string ⟨#[]⟩,.string ⟨#[115,116,114,117,99,116]⟩]:Array Value)[i]? = some (.string ⟨f.toArray⟩)∧(#[.int .i64 0,.int .i64 10,.int .i64 0,.int .i64 0,.int .i64 0,.int .i64 0,.int .i64 0,.int .i64 0,.int .i64 0,.int .i64 0,.int .i64 0]:Array Value)[i]? = some (.int .i64 (p:Int))∧root.length≤8000∧xs.length=n∧n≤6∧RdQ W A xs∧SrcOk xs∧(outV root xs).e=e∧(outV root xs).file=f∧(outV root xs).at_=p):=by
  intro i hi
  rcases (show i=0∨i=1∨i=2∨i=3∨i=4∨i=5∨i=6∨i=7∨i=8∨i=9∨i=10 by omega) with rfl | rfl | rfl | rfl | rfl | rfl | rfl | rfl | rfl | rfl | rfl
  ·exact ⟨[97],[],0,none,0,15,[97],0,rfl,rfl,rfl,rfl,rfl,by decide,rfl,by decide,(fun h=>by simp at h),(fun x hx=>by cases hx),outV_res bf_0 (by decide)⟩
  ·exact ⟨[97],bl0,3,_,_,2,[98],10,rfl,rfl,rfl,rfl,rfl,by decide,rfl,by decide,HR0.out,bo_0,outV_res bf_1 (by decide)⟩
  ·exact ⟨[99],bl0,3,_,_,0,[],0,rfl,rfl,rfl,rfl,rfl,by decide,rfl,by decide,HR0.out,bo_0,outV_res bf_2 (by decide)⟩
  ·exact ⟨[97],bl1,2,_,_,8,[97],0,rfl,rfl,rfl,rfl,rfl,by decide,rfl,by decide,HR1.out,bo_1,outV_res bf_3 (by decide)⟩
  ·exact ⟨[97],bl2,2,_,_,2,[98,46,99],0,rfl,rfl,rfl,rfl,rfl,by decide,rfl,by decide,HR2.out,bo_2,outV_res bf_4 (by decide)⟩
  ·exact ⟨[97],bl3,1,_,_,9,[97],0,rfl,rfl,rfl,rfl,rfl,by decide,rfl,by decide,HR3.out,bo_3,outV_res bf_5 (by decide)⟩
  ·exact ⟨[97],bl4,1,_,_,15,[97],0,rfl,rfl,rfl,rfl,rfl,by decide,rfl,by decide,HR4.out,bo_4,outV_res bf_6 (by decide)⟩
  ·exact ⟨[97],bl5,2,_,_,9,[98],0,rfl,rfl,rfl,rfl,rfl,by decide,rfl,by decide,HR5.out,bo_5,outV_res bf_7 (by decide)⟩
  ·exact ⟨[],bl6,1,_,_,15,[],0,rfl,rfl,rfl,rfl,rfl,by decide,rfl,by decide,HR6.out,bo_6,outV_res bf_8 (by decide)⟩
  ·exact ⟨[97],bl7,6,_,_,4,[],0,rfl,rfl,rfl,rfl,rfl,by decide,rfl,by decide,HR7.out,bo_7,outV_res bf_9 (by decide)⟩
  ·exact ⟨[97],bl8,2,_,_,2,[115,116,114,117,99,116],0,rfl,rfl,rfl,rfl,rfl,by decide,rfl,by decide,HR8.out,bo_8,outV_res bf_10 (by decide)⟩
 clear HR0 HR1 HR2 HR3 HR4 HR5 HR6 HR7 HR8
 go_wp2_with fail
 go_loopw [6] (fun v wr=>∃ i:Nat,v = .int .i64 i∧i≤11∧Nx W wr) (fun v _=>(11 - intOf v).toNat)
 case atStart=>exact ⟨0,rfl,by decide,Nx.refl _⟩
 case round =>
  obtain ⟨i,rfl,hi,hbr⟩:=hrel
  have HBR:=Lib.hid hbr
  have HNr:=Lib.hid (HN.out.trans hbr)
  clear hbr
  by_cases hlt:i<11
  ·obtain ⟨root,xs,n,A,c,er,f,pl,h1,h2,h3,h4,h5,h6,h7,h8,h9,h10,h11,h12,h13⟩:=HG.out i hlt
   have H3:=Lib.hid h3
   have H4:=Lib.hid h4
   have H5:=Lib.hid h5
   have c1:wr.cell? ⟨g,i * 2,none⟩=some (.string ⟨root.toArray⟩):=by rw [(HB0.out.below HBR.out).cell];exact h1
   have c2:wr.cell? ⟨g,i * 2+1,none⟩=some (.slice A n c):=by rw [(HB0.out.below HBR.out).cell];exact h2
   have HC:=Lib.hid (lgen wr _ root (Tx.of _) h6 A n c xs h7 (h9.nx HBR.out) h10 h8 (HT.out.nx HNr.out) (HM.out.nx HNr.out) _ rfl)
   rw [h11,h12,h13] at HC
   have hn6:(n:Int)≤6:=by omega
   clear h1 h2 h3 h4 h5 h6 h7 h8 h9 h10
   go_wp2_with fail
   refine HC.out.mono ?_;rintro e w2 ⟨nA,nc,fA,fc,rfl,-,-,hn2⟩
   have hn3:Nx W (w2.alloc (.cells #[.slice nA (outV root xs).names.length nc,.slice fA (outV root xs).files.length fc] 45)):=HBR.out.trans (hn2.trans (nx0 _ _))
   have HN3:=Lib.hid hn3
   clear hn2 hn3 c1 c2 HC
   go_upto_region 12 with (fail)
   generalize World.alloc w2 _=w3 at *
   have c3:w3.cell? ⟨g1,i,none⟩=some (.int .i64 (er:Int)):=by rw [(HB1.out.below HN3.out).cell];exact H3.out
   have c4:w3.cell? ⟨g2,i,none⟩=some (.string ⟨f.toArray⟩):=by rw [(HB2.out.below HN3.out).cell];exact H4.out
   have c5:w3.cell? ⟨g3,i,none⟩=some (.int .i64 (pl:Int)):=by rw [(HB3.out.below HN3.out).cell];exact H5.out
   have hk1:((er:Int) != (er:Int))=false:=by simp
   have hk2:((pl:Int) != (pl:Int))=false:=by simp
   have hk3:(f != f)=false:=by simp
   go_wp2_with fail
   go_roundw
   case rel=>exact ⟨i+1,by go_num,hlt,HN3.out⟩
   case measure=>simp [intOf];omega
  ·obtain rfl:i=11:=by omega
   go_wp2_with fail
   go_ret
   exact ⟨rfl,HNr.out⟩
end Go.Proofs.YtpbjkgpdkopgmaaGreatDoor
