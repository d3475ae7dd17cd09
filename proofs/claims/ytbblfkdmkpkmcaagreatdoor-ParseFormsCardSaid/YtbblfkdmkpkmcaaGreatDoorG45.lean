/- What some texts are as files: reckoned. ParseForms: the law returns true and leaves memory as it was. The texts of ParseMost, reckoned. ParseMost: the law returns true and leaves memory as it was: arm 0. ParseMost: the law returns true and leaves memory as it was: arm 1. ParseMost: the law returns true and leaves memory as it was: arm 2. ParseMost: the law returns true and leaves memory as it was: arm 3. -/
import Derived.Test.YtbblfkdmkpkmcaaGreatDoorG01
import Derived.Test.YtbblfkdmkpkmcaaGreatDoorG28
set_option linter.unusedVariables false
set_option linter.unusedSimpArgs false
set_option linter.unnecessarySimpa false
namespace Go.Proofs.YtbblfkdmkpkmcaaGreatDoor
open Go.RowKit
theorem pf_b3:parseF [115,116,114,117,99,116,32,65,32,123,98,121,116,101,32,98,32,61,32,48,120,49,48,125]=(⟨[],[],[⟨4,[65],[],con0,[⟨false,0,0,[105,56],[98],true,.mk 1 16 0 [] []⟩],[],[],[]⟩]⟩,0,0):=by rfl
theorem pf_0:(parseF []).2=(0,0):=by decide +kernel
theorem pf_1:(parseF [105,110,99,108,117,100,101,32,39,97,39]).2=(0,0):=by decide +kernel
theorem pf_2:(parseF [105,110,99,108,117,100,101,32,39,97,46,98,39]).2=(2,8):=by decide +kernel
theorem pf_3:(parseF [105,110,99,108,117,100,101,32,97]).2=(2,8):=by decide +kernel
theorem pf_4:(parseF [110,97,109,101,115,112,97,99,101,32,42,32,97,46,98]).2=(0,0):=by decide +kernel
theorem pf_5:(parseF [110,97,109,101,115,112,97,99,101,32,103,111,32,120,46,121,46,122,46,119]).2=(2,13):=by decide +kernel
theorem pf_6:(parseF [116,121,112,101,100,101,102,32,105,56,32,97,59]).2=(0,0):=by decide +kernel
theorem pf_7:(parseF [116,121,112,101,100,101,102,32,97]).2=(2,9):=by decide +kernel
theorem pf_8:(parseF [101,110,117,109,32,69,32,123,125]).2=(0,0):=by decide +kernel
theorem pf_9:(parseF [101,110,117,109,32,69,32,123,65,61,49,32,66,44,67,59,125]).2=(0,0):=by decide +kernel
theorem pf_10:(parseF [101,110,117,109,32,69,32,123,65,61,39,120,39,125]).2=(2,10):=by decide +kernel
theorem pf_11:(parseF [101,110,117,109,32,69,32,123,65,46,66,125]).2=(2,8):=by decide +kernel
theorem pf_12:(parseF [99,111,110,115,116,32,105,56,32,97,32,49]).2=(2,11):=by decide +kernel
theorem pf_13:(parseF [99,111,110,115,116,32,108,105,115,116,60,105,56,62,32,97,32,61,32,91,49,44,50,59,51,32,52,93]).2=(0,0):=by decide +kernel
theorem pf_14:(parseF [99,111,110,115,116,32,109,97,112,60,105,56,44,105,56,62,32,97,32,61,32,123,49,58,50,44,32,51,58,52,125]).2=(0,0):=by decide +kernel
theorem pf_15:(parseF [99,111,110,115,116,32,105,56,32,97,32,61,32,123,49,125]).2=(2,15):=by decide +kernel
theorem pf_16:(parseF [115,116,114,117,99,116,32,105,51,50,32,123,125]).2=(2,7):=by decide +kernel
theorem pf_17:(parseF [115,116,114,117,99,116,32,65,32,123,105,56,32,98,32,61,32,49,59,32,50,58,32,114,101,113,117,105,114,101,100,32,97,46,98,32,99,125]).2=(0,0):=by decide +kernel
theorem pf_18:(parseF [115,116,114,117,99,116,32,65,32,123,114,101,113,117,105,114,101,100,32,111,112,116,105,111,110,97,108,32,105,56,32,98,125]).2=(2,19):=by decide +kernel
theorem pf_19:(parseF [115,116,114,117,99,116,32,65,32,123,49,32,105,56,32,98,125]).2=(2,12):=by decide +kernel
theorem pf_20:(parseF [115,116,114,117,99,116,32,65,32,123,105,56,125]).2=(2,12):=by decide +kernel
theorem pf_21:(parseF [115,101,114,118,105,99,101,32,65,32,101,120,116,101,110,100,115,32,98,46,67,32,123,111,110,101,119,97,121,32,118,111,105,100,32,100,40,41,44,32,105,56,32,101,40,49,58,32,105,56,32,102,41,32,116,104,114,111,119,115,32,40,49,58,32,88,32,120,41,125]).2=(0,0):=by decide +kernel
theorem pf_22:(parseF [115,101,114,118,105,99,101,32,65,32,123,118,111,105,100,32,98,40,125]).2=(2,18):=by decide +kernel
theorem pf_23:(parseF [115,116,114,117,99,116,32,65,32,123,125,32,105,110,99,108,117,100,101,32,39,97,39]).2=(2,12):=by decide +kernel
theorem pf_24:(parseF [115,116,114,117,99,116,32,65,32,123,108,105,115,116,60,108,105,115,116,60,105,56,62,62,32,98,125]).2=(0,0):=by decide +kernel
theorem pf_25:(parseF [115,116,114,117,99,116,32,65,32,123,109,97,112,60,105,56,32,98,125]).2=(2,17):=by decide +kernel
theorem pf_26:(parseF [115,116,114,117,99,116,32,65,32,123,98,121,116,101,32,98,125]).2=(0,0):=by decide +kernel
theorem pf_27:(parseF [115,116,114,117,99,116,32,65,32,123,118,111,105,100,32,98,125]).2=(2,10):=by decide +kernel
theorem pf_28:(parseF [120]).2=(2,0):=by decide +kernel
theorem pf_29:(parseF [115,116,114,117,99,116,32,65,32,123,97,46,98,46,99,32,100,125]).2=(0,0):=by decide +kernel
theorem pf_30:(parseF [115,116,114,117,99,116,32,65,32,123,97,46,98,46,99,46,100,32,101,125]).2=(2,10):=by decide +kernel
theorem pf_31:(parseF [99,111,110,115,116,32,105,56,32,97,32,61,32,98,46,99,46,100]).2=(0,0):=by decide +kernel
theorem pf_32:(parseF [115,116,114,117,99,116,32,65,32,123,105,56,32,116,114,117,101,125]).2=(2,13):=by decide +kernel
end Go.Proofs.YtbblfkdmkpkmcaaGreatDoor
namespace Go.Proofs.YtbblfkdmkpkmcaaGreatDoor
open Go.RowKit
def fT:Array Value:=#[.string ⟨#[]⟩,.string ⟨#[105,110,99,108,117,100,101,32,39,97,39]⟩,.string ⟨#[105,110,99,108,117,100,101,32,39,97,46,98,39]⟩,.string ⟨#[105,110,99,108,117,100,101,32,97]⟩,.string ⟨#[110,97,109,101,115,112,97,99,101,32,42,32,97,46,98]⟩,.string ⟨#[110,97,109,101,115,112,97,99,101,32,103,111,32,120,46,121,46,122,46,119]⟩,.string ⟨#[116,121,112,101,100,101,102,32,105,56,32,97,59]⟩,.string ⟨#[116,121,112,101,100,101,102,32,97]⟩,.string ⟨#[101,110,117,109,32,69,32,123,125]⟩,.string ⟨#[101,110,117,109,32,69,32,123,65,61,49,32,66,44,67,59,125]⟩,.string ⟨#[101,110,117,109,32,69,32,123,65,61,39,120,39,125]⟩,.string ⟨#[101,110,117,109,32,69,32,123,65,46,66,125]⟩,.string ⟨#[99,111,110,115,116,32,105,56,32,97,32,49]⟩,.string ⟨#[99,111,110,115,116,32,108,105,115,116,60,105,56,62,32,97,32,61,32,91,49,44,50,59,51,32,52,93]⟩,.string ⟨#[99,111,110,115,116,32,109,97,112,60,105,56,44,105,56,62,32,97,32,61,32,123,49,58,50,44,32,51,58,52,125]⟩,.string ⟨#[99,111,110,115,116,32,105,56,32,97,32,61,32,123,49,125]⟩,.string ⟨#[115,116,114,117,99,116,32,105,51,50,32,123,125]⟩,.string ⟨#[115,116,114,117,99,116,32,65,32,123,105,56,32,98,32,61,32,49,59,32,50,58,32,114,101,113,117,105,114,101,100,32,97,46,98,32,99,125]⟩,.string ⟨#[115,116,114,117,99,116,32,65,32,123,114,101,113,117,105,114,101,100,32,111,112,116,105,111,110,97,108,32,105,56,32,98,125]⟩,.string ⟨#[115,116,114,117,99,116,32,65,32,123,49,32,105,56,32,98,125]⟩,.string ⟨#[115,116,114,117,99,116,32,65,32,123,105,56,125]⟩,.string ⟨#[115,101,114,118,105,99,101,32,65,32,101,120,116,101,110,100,115,32,98,46,67,32,123,111,110,101,119,97,121,32,118,111,105,100,32,100,40,41,44,32,105,56,32,101,40,49,58,32,105,56,32,102,41,32,116,104,114,111,119,115,32,40,49,58,32,88,32,120,41,125]⟩,.string ⟨#[115,101,114,118,105,99,101,32,65,32,123,118,111,105,100,32,98,40,125]⟩,.string ⟨#[115,116,114,117,99,116,32,65,32,123,125,32,105,110,99,108,117,100,101,32,39,97,39]⟩,.string ⟨#[115,116,114,117,99,116,32,65,32,123,108,105,115,116,60,108,105,115,116,60,105,56,62,62,32,98,125]⟩,.string ⟨#[115,116,114,117,99,116,32,65,32,123,109,97,112,60,105,56,32,98,125]⟩,.string ⟨#[115,116,114,117,99,116,32,65,32,123,98,121,116,101,32,98,125]⟩,.string ⟨#[115,116,114,117,99,116,32,65,32,123,118,111,105,100,32,98,125]⟩,.string ⟨#[120]⟩,.string ⟨#[115,116,114,117,99,116,32,65,32,123,97,46,98,46,99,32,100,125]⟩,.string ⟨#[115,116,114,117,99,116,32,65,32,123,97,46,98,46,99,46,100,32,101,125]⟩,.string ⟨#[99,111,110,115,116,32,105,56,32,97,32,61,32,98,46,99,46,100]⟩,.string ⟨#[115,116,114,117,99,116,32,65,32,123,105,56,32,116,114,117,101,125]⟩]
def fE:Array Value:=#[.int .i64 0,.int .i64 0,.int .i64 2,.int .i64 2,.int .i64 0,.int .i64 2,.int .i64 0,.int .i64 2,.int .i64 0,.int .i64 0,.int .i64 2,.int .i64 2,.int .i64 2,.int .i64 0,.int .i64 0,.int .i64 2,.int .i64 2,.int .i64 0,.int .i64 2,.int .i64 2,.int .i64 2,.int .i64 0,.int .i64 2,.int .i64 2,.int .i64 0,.int .i64 2,.int .i64 0,.int .i64 2,.int .i64 2,.int .i64 0,.int .i64 2,.int .i64 0,.int .i64 2]
def fP:Array Value:=#[.int .i64 0,.int .i64 0,.int .i64 8,.int .i64 8,.int .i64 0,.int .i64 13,.int .i64 0,.int .i64 9,.int .i64 0,.int .i64 0,.int .i64 10,.int .i64 8,.int .i64 11,.int .i64 0,.int .i64 0,.int .i64 15,.int .i64 7,.int .i64 0,.int .i64 19,.int .i64 12,.int .i64 12,.int .i64 0,.int .i64 18,.int .i64 12,.int .i64 0,.int .i64 17,.int .i64 0,.int .i64 10,.int .i64 0,.int .i64 0,.int .i64 10,.int .i64 0,.int .i64 13]
theorem fforms (i:Nat) (hi:i<33):∃ (s:ByteArray) (l:List UInt8) (e p:Nat),fT[i]? = some (.string s)∧Tx s l∧(parseF l).2=(e,p)∧fE[i]? = some (.int .i64 (e:Int))∧fP[i]? = some (.int .i64 (p:Int))∧(l.length:Int)≤140737488355328:=by
 rcases (show i=0∨i=1∨i=2∨i=3∨i=4∨i=5∨i=6∨i=7∨i=8∨i=9∨i=10∨i=11∨i=12∨i=13∨i=14∨i=15∨i=16∨i=17∨i=18∨i=19∨i=20∨i=21∨i=22∨i=23∨i=24∨i=25∨i=26∨i=27∨i=28∨i=29∨i=30∨i=31∨i=32 by omega) with rfl | rfl | rfl | rfl | rfl | rfl | rfl | rfl | rfl | rfl | rfl | rfl | rfl | rfl | rfl | rfl | rfl | rfl | rfl | rfl | rfl | rfl | rfl | rfl | rfl | rfl | rfl | rfl | rfl | rfl | rfl | rfl | rfl
 ·exact ⟨_,[],0,0,rfl,rfl,pf_0,rfl,rfl,by decide⟩
 ·exact ⟨_,[105,110,99,108,117,100,101,32,39,97,39],0,0,rfl,rfl,pf_1,rfl,rfl,by decide⟩
 ·exact ⟨_,[105,110,99,108,117,100,101,32,39,97,46,98,39],2,8,rfl,rfl,pf_2,rfl,rfl,by decide⟩
 ·exact ⟨_,[105,110,99,108,117,100,101,32,97],2,8,rfl,rfl,pf_3,rfl,rfl,by decide⟩
 ·exact ⟨_,[110,97,109,101,115,112,97,99,101,32,42,32,97,46,98],0,0,rfl,rfl,pf_4,rfl,rfl,by decide⟩
 ·exact ⟨_,[110,97,109,101,115,112,97,99,101,32,103,111,32,120,46,121,46,122,46,119],2,13,rfl,rfl,pf_5,rfl,rfl,by decide⟩
 ·exact ⟨_,[116,121,112,101,100,101,102,32,105,56,32,97,59],0,0,rfl,rfl,pf_6,rfl,rfl,by decide⟩
 ·exact ⟨_,[116,121,112,101,100,101,102,32,97],2,9,rfl,rfl,pf_7,rfl,rfl,by decide⟩
 ·exact ⟨_,[101,110,117,109,32,69,32,123,125],0,0,rfl,rfl,pf_8,rfl,rfl,by decide⟩
 ·exact ⟨_,[101,110,117,109,32,69,32,123,65,61,49,32,66,44,67,59,125],0,0,rfl,rfl,pf_9,rfl,rfl,by decide⟩
 ·exact ⟨_,[101,110,117,109,32,69,32,123,65,61,39,120,39,125],2,10,rfl,rfl,pf_10,rfl,rfl,by decide⟩
 ·exact ⟨_,[101,110,117,109,32,69,32,123,65,46,66,125],2,8,rfl,rfl,pf_11,rfl,rfl,by decide⟩
 ·exact ⟨_,[99,111,110,115,116,32,105,56,32,97,32,49],2,11,rfl,rfl,pf_12,rfl,rfl,by decide⟩
 ·exact ⟨_,[99,111,110,115,116,32,108,105,115,116,60,105,56,62,32,97,32,61,32,91,49,44,50,59,51,32,52,93],0,0,rfl,rfl,pf_13,rfl,rfl,by decide⟩
 ·exact ⟨_,[99,111,110,115,116,32,109,97,112,60,105,56,44,105,56,62,32,97,32,61,32,123,49,58,50,44,32,51,58,52,125],0,0,rfl,rfl,pf_14,rfl,rfl,by decide⟩
 ·exact ⟨_,[99,111,110,115,116,32,105,56,32,97,32,61,32,123,49,125],2,15,rfl,rfl,pf_15,rfl,rfl,by decide⟩
 ·exact ⟨_,[115,116,114,117,99,116,32,105,51,50,32,123,125],2,7,rfl,rfl,pf_16,rfl,rfl,by decide⟩
 ·exact ⟨_,[115,116,114,117,99,116,32,65,32,123,105,56,32,98,32,61,32,49,59,32,50,58,32,114,101,113,117,105,114,101,100,32,97,46,98,32,99,125],0,0,rfl,rfl,pf_17,rfl,rfl,by decide⟩
 ·exact ⟨_,[115,116,114,117,99,116,32,65,32,123,114,101,113,117,105,114,101,100,32,111,112,116,105,111,110,97,108,32,105,56,32,98,125],2,19,rfl,rfl,pf_18,rfl,rfl,by decide⟩
 ·exact ⟨_,[115,116,114,117,99,116,32,65,32,123,49,32,105,56,32,98,125],2,12,rfl,rfl,pf_19,rfl,rfl,by decide⟩
 ·exact ⟨_,[115,116,114,117,99,116,32,65,32,123,105,56,125],2,12,rfl,rfl,pf_20,rfl,rfl,by decide⟩
 ·exact ⟨_,[115,101,114,118,105,99,101,32,65,32,101,120,116,101,110,100,115,32,98,46,67,32,123,111,110,101,119,97,121,32,118,111,105,100,32,100,40,41,44,32,105,56,32,101,40,49,58,32,105,56,32,102,41,32,116,104,114,111,119,115,32,40,49,58,32,88,32,120,41,125],0,0,rfl,rfl,pf_21,rfl,rfl,by decide⟩
 ·exact ⟨_,[115,101,114,118,105,99,101,32,65,32,123,118,111,105,100,32,98,40,125],2,18,rfl,rfl,pf_22,rfl,rfl,by decide⟩
 ·exact ⟨_,[115,116,114,117,99,116,32,65,32,123,125,32,105,110,99,108,117,100,101,32,39,97,39],2,12,rfl,rfl,pf_23,rfl,rfl,by decide⟩
 ·exact ⟨_,[115,116,114,117,99,116,32,65,32,123,108,105,115,116,60,108,105,115,116,60,105,56,62,62,32,98,125],0,0,rfl,rfl,pf_24,rfl,rfl,by decide⟩
 ·exact ⟨_,[115,116,114,117,99,116,32,65,32,123,109,97,112,60,105,56,32,98,125],2,17,rfl,rfl,pf_25,rfl,rfl,by decide⟩
 ·exact ⟨_,[115,116,114,117,99,116,32,65,32,123,98,121,116,101,32,98,125],0,0,rfl,rfl,pf_26,rfl,rfl,by decide⟩
 ·exact ⟨_,[115,116,114,117,99,116,32,65,32,123,118,111,105,100,32,98,125],2,10,rfl,rfl,pf_27,rfl,rfl,by decide⟩
 ·exact ⟨_,[120],2,0,rfl,rfl,pf_28,rfl,rfl,by decide⟩
 ·exact ⟨_,[115,116,114,117,99,116,32,65,32,123,97,46,98,46,99,32,100,125],0,0,rfl,rfl,pf_29,rfl,rfl,by decide⟩
 ·exact ⟨_,[115,116,114,117,99,116,32,65,32,123,97,46,98,46,99,46,100,32,101,125],2,10,rfl,rfl,pf_30,rfl,rfl,by decide⟩
 ·exact ⟨_,[99,111,110,115,116,32,105,56,32,97,32,61,32,98,46,99,46,100],0,0,rfl,rfl,pf_31,rfl,rfl,by decide⟩
 ·exact ⟨_,[115,116,114,117,99,116,32,65,32,123,105,56,32,116,114,117,101,125],2,13,rfl,rfl,pf_32,rfl,rfl,by decide⟩
set_option maxRecDepth 100000 in
set_option maxHeartbeats 6400000 in
theorem ParseForms_walk (w:World) (ht:TabK w) (hm:MaxC w) :
  Calls Tryz.prog 7 #[] w fun e w'=>e = .returned (.bool true)∧Below w.heap.size w w':=by
 have H3:Hid (∀ w,TabK w→MaxC w→Calls Tryz.prog 11 #[.string ⟨#[115,116,114,117,99,116,32,65,32,123,98,121,116,101,32,98,32,61,32,48,120,49,48,125]⟩] w fun e w'=>∃ (iA:Option Addr) (ic:Nat) (sA:Option Addr) (sc:Nat) (gd gf fc dc:Nat),e = .returned (.tuple #[.agg #[.slice iA 0 ic,.slice sA 0 sc,.slice (some ⟨gd,0,none⟩) 1 dc],.int .i64 0,.int .i64 0]) ∧
   gd<w'.heap.size∧gf<w'.heap.size∧w'.cell? ⟨gd,8,none⟩=some (.slice (some ⟨gf,0,none⟩) 1 fc)∧w'.cell? ⟨gf,3,none⟩=some (.string ⟨#[105,56]⟩)∧w'.cell? ⟨gf,7,none⟩=some (.int .i64 16)∧Nx w w'):=by
  intro w ht hm
  have:=pgen w ⟨#[115,116,114,117,99,116,32,65,32,123,98,121,116,101,32,98,32,61,32,48,120,49,48,125]⟩ [115,116,114,117,99,116,32,65,32,123,98,121,116,101,32,98,32,61,32,48,120,49,48,125] rfl (by decide) ht hm
  rw [pf_b3] at this
  refine this.mono ?_
  rintro e w' ⟨iA,ic,sA,sc,dA,dc,rfl,hr,hn⟩
  obtain ⟨gd,gf,fc,rfl,h1,h2,h3,-,h5,h6⟩:=one_field 1 16 0 [] [] rfl hr.2.2
  exact ⟨iA,ic,sA,sc,gd,gf,fc,dc,rfl,h1,h2,h3,h5,h6,hn⟩
 have HG:=Lib.hid fforms
 have HT:=Lib.hid ht
 have HM:=Lib.hid hm
 clear ht hm
 go_enter Tryz.func7,Tryz.ntmps7
 go_wp2_with fail
 refine (pbegun_any w HT.out HM.out).mono ?_;rintro e w0 ⟨rfl,hb⟩
 go_wp2_with fail
 obtain ⟨g,hg⟩:∃ g,w0.heap.size=g:=⟨_,rfl⟩
 rw [hg]
 generalize hW:(((w0.alloc _).alloc _).alloc _)=W
 have hB0:Blk W g g fT 9:=by rw [← hW,← hg];exact ((Blk.new w0 fT _).alloc _).alloc _
 have hB1:Blk W g (g+1) fE 28:=by
  rw [← hW,← hg,show w0.heap.size+1=(w0.alloc (.cells fT 9)).heap.size from by simp]
  exact ((Blk.new (w0.alloc (.cells fT 9)) fE _).less (by simp)).alloc _
 have hB2:Blk W g (g+1+1) fP 3:=by
  rw [← hW,← hg,show w0.heap.size+1+1=((w0.alloc (.cells fT 9)).alloc (.cells fE 28)).heap.size from by simp]
  exact (Blk.new ((w0.alloc (.cells fT 9)).alloc (.cells fE 28)) fP _).less (by simp;omega)
 have hN:Nx w W:=by rw [← hW];exact Nx.al (Nx.al (Nx.al hb _) _) _
 clear hW
 go_loopw [4] (fun v wr=>∃ i:Nat,v = .int .i64 i∧i≤33∧Nx W wr) (fun v _=>(33 - intOf v).toNat)
 case atStart=>exact ⟨0,rfl,by decide,Nx.refl _⟩
 case round =>
  obtain ⟨i,rfl,hi,hbr⟩:=hrel
  have HNr:=Lib.hid (Nx.trans hN hbr)
  have HBR:=Lib.hid hbr
  by_cases hlt:i<33
  ·obtain ⟨s,l,er,pl,h1,h2,h3,h4,h5,h6⟩:=HG.out i hlt
   have c1:wr.cell? ⟨g,i,none⟩=some (.string s):=by rw [(hB0.below hbr).cell i];exact h1
   have H4:=Lib.hid h4
   have H5:=Lib.hid h5
   have HH:Hid (∀ w,TabK w→MaxC w→Calls Tryz.prog 11 #[.string s] w fun e w'=>∃ (iA:Option Addr) (im ic:Nat) (sA:Option Addr) (sm sc:Nat) (dA:Option Addr) (dm dc:Nat),e = .returned (.tuple #[.agg #[.slice iA im ic,.slice sA sm sc,.slice dA dm dc],.int .i64 (er:Int),.int .i64 (pl:Int)])∧Nx w w'):=by
    intro w ht hm
    have:=pgen w s l h2 h6 ht hm
    rw [h3] at this
    refine this.mono ?_
    rintro e w' ⟨iA,ic,sA,sc,dA,dc,rfl,hr,hn⟩
    exact ⟨iA,_,ic,sA,_,sc,dA,_,dc,rfl,hn⟩
   clear h1 h2 h3 h4 h5 h6 hbr
   go_wp2_with fail
   refine (HH.out wr (HT.out.nx HNr.out) (HM.out.nx HNr.out)).mono ?_;rintro e w9 ⟨iA,im,ic,sA,sm,sc,dA,dm,dc,rfl,hw9⟩
   have hn10:Nx w9 _:=nx0 w9 (.cells #[.slice iA im ic,.slice sA sm sc,.slice dA dm dc] 27)
   have HN10:Hid (Nx W _):=Nx.trans HBR.out (Nx.trans hw9 hn10)
   clear hn10 hw9 c1
   go_upto_region 10 with (fail)
   generalize World.alloc w9 _=w10 at *
   have c2:w10.cell? ⟨g+1,i,none⟩=some (.int .i64 (er:Int)):=by rw [(hB1.below HN10.out).cell i];exact H4.out
   have c3:w10.cell? ⟨g+1+1,i,none⟩=some (.int .i64 (pl:Int)):=by rw [(hB2.below HN10.out).cell i];exact H5.out
   have hk1:((er:Int) != (er:Int))=false:=by simp
   have hk2:((pl:Int) != (pl:Int))=false:=by simp
   go_wp2_with fail
   go_roundw
   case rel=>exact ⟨i+1,by go_num,hlt,HN10.out⟩
   case measure=>simp [intOf];omega
  ·obtain rfl:i=33:=by omega
   clear hlt hi hbr
   go_wp2_with fail
   refine (H3.out wr (HT.out.nx HNr.out) (HM.out.nx HNr.out)).mono ?_;rintro e w1 ⟨iA,ic,sA,sc,gd,gf,fc,dc,rfl,hgd,hgf,h8,h3,h7,hn1⟩
   obtain ⟨g1,hg1⟩:∃ g,w1.heap.size=g:=⟨_,rfl⟩
   have hB9:=Blk.new w1 #[.slice iA 0 ic,.slice sA 0 sc,.slice (some ⟨gd,0,none⟩) 1 dc] 27
   rw [hg1] at hB9
   have hn2:Nx w1 _:=nx0 w1 (.cells #[.slice iA 0 ic,.slice sA 0 sc,.slice (some ⟨gd,0,none⟩) 1 dc] 27)
   have HB9:=Lib.hid hB9
   have HN2:=Lib.hid (Nx.trans hn1 hn2)
   have H8:=Lib.hid ((hn2.cell (p:=⟨gd,8,none⟩) hgd).trans h8)
   have H33:=Lib.hid ((hn2.cell (p:=⟨gf,3,none⟩) hgf).trans h3)
   have H77:=Lib.hid ((hn2.cell (p:=⟨gf,7,none⟩) hgf).trans h7)
   clear hB9 hn1 hn2 h8 h3 h7 hgd hgf
   go_upto_region 13 with (fail)
   generalize World.alloc w1 _=w2 at *
   clear hg1
   have c2:w2.cell? ⟨g1,2,none⟩=some (.slice (some ⟨gd,0,none⟩) 1 dc):=HB9.out.cell 2
   have c8:w2.cell? ⟨gd,8,none⟩=some (.slice (some ⟨gf,0,none⟩) 1 fc):=H8.out
   have c3:w2.cell? ⟨gf,3,none⟩=some (.string ⟨#[105,56]⟩):=H33.out
   have c7:w2.cell? ⟨gf,7,none⟩=some (.int .i64 16):=H77.out
   go_wp2_with fail
   go_ret
   exact ⟨rfl,HNr.out.trans HN2.out⟩
end Go.Proofs.YtbblfkdmkpkmcaaGreatDoor
namespace Go.Proofs.YtbblfkdmkpkmcaaGreatDoor
open Go.RowKit
def moR (a p:List UInt8):Nat→List UInt8
 | 0=>a
 | n+1=>moR a p n++p
theorem moR_len (a p:List UInt8) (n:Nat):(moR a p n).length=a.length+n * p.length:=by
 induction n with
 | zero=>simp [moR]
 | succ n ih=>simp [moR,ih];rw [Nat.add_mul];omega
def good0 (k:Nat):Bool:=let r:=parseF (moR [] [101,110,117,109,32,69,123,65,125,32] k);if 30<k then r.2.1 == 4 else r.2.1 == 0 && r.1.defs.length == k
def goodR (most:Nat) (a p z:List UInt8) (k:Nat):Bool:=let r:=parseF (moR a p k++z);if most<k then r.2.1 == 4 else r.2.1 == 0 && r.1.defs.length == 1
def good4 (k:Nat):Bool:=let r:=parseF ((if k=0 then [99,111,110,115,116,32,105,56,32,99,32,61,32,49] else moR [99,111,110,115,116,32,105,56,32,99,32,61,32] [91] k)++moR [] [93] k);if 12<k then r.2.1 == 4 || r.2.1 == 6 else r.2.1 == 0 && r.1.defs.length == 1
theorem mo_0:∀ k<45,good0 k=true:=by decide +kernel
theorem mo_1:∀ k<45,goodR 30 [115,116,114,117,99,116,32,83,32,123] [105,56,32,97,44] [125] k=true:=by decide +kernel
theorem mo_2:∀ k<45,goodR 30 [101,110,117,109,32,83,32,123] [97,59] [125] k=true:=by decide +kernel
theorem mo_3:∀ k<45,goodR 40 [99,111,110,115,116,32,105,56,32,99,32,61,32,91] [49,32] [93] k=true:=by decide +kernel
theorem mo_4:∀ k<45,good4 k=true:=by decide +kernel
theorem mo_5:∀ k<45,goodR 30 [115,101,114,118,105,99,101,32,83,32,123] [118,111,105,100,32,97,40,41] [125] k=true:=by decide +kernel
end Go.Proofs.YtbblfkdmkpkmcaaGreatDoor
namespace Go.Proofs.YtbblfkdmkpkmcaaGreatDoor
open Go.RowKit
theorem txApp0 {a b:ByteArray} {la lb:List UInt8} (h:Tx a la) (g:Tx b lb):Tx (a++b) (la++lb):=by
 unfold Tx at *
 rw [← h,← g]
 simp [ByteArray.data_append]
set_option maxRecDepth 100000 in
set_option maxHeartbeats 6400000 in
theorem most_walk0 (n which:Int) (w:World) (ht:TabK w) (hm:MaxC w) (hn0:0≤n) (hn1:n≤255) (hw0:0≤which) (hw1:which≤255) (hq:which % 6=0) :
  Calls Tryz.prog 6 #[.int .u8 n,.int .u8 which] w fun e w'=>e = .returned (.bool true)∧Nx w w':=by
 obtain ⟨k,hk,hk2⟩:∃ k:Nat,n % 45=(k:Int)∧k<45:=⟨(n % 45).toNat,by omega,by omega⟩
 have hkI:(k:Int)<45:=by omega
 obtain ⟨er,pl,dn,HP,hgood⟩:∃ er pl dn:Nat,Hid (∀ s,Tx s (moR [] [101,110,117,109,32,69,123,65,125,32] k)→∀ w,TabK w→MaxC w→Calls Tryz.prog 11 #[.string (s++⟨#[]⟩)] w fun e w'=>∃ (iA:Option Addr) (im ic:Nat) (sA:Option Addr) (sm sc:Nat) (dA:Option Addr) (dc:Nat),e = .returned (.tuple #[.agg #[.slice iA im ic,.slice sA sm sc,.slice dA dn dc],.int .i64 (er:Int),.int .i64 (pl:Int)])∧Nx w w')∧Hid (if 30<k then er=4 else er=0∧dn=k):=by
  refine ⟨(parseF (moR [] [101,110,117,109,32,69,123,65,125,32] k++[])).2.1,(parseF (moR [] [101,110,117,109,32,69,123,65,125,32] k++[])).2.2,(parseF (moR [] [101,110,117,109,32,69,123,65,125,32] k++[])).1.defs.length,?_,?_⟩
  ·intro s hs w ht hm
   have hl:((moR [] [101,110,117,109,32,69,123,65,125,32] k++[]).length:Int)≤140737488355328:=by
    rw [List.length_append,moR_len]
    simp only [List.length_cons,List.length_nil]
    omega
   refine (pgen w (s++⟨#[]⟩) (moR [] [101,110,117,109,32,69,123,65,125,32] k++[]) (txApp0 hs (Tx.of [])) hl ht hm).mono ?_
   rintro e w' ⟨iA,ic,sA,sc,dA,dc,rfl,hr,hn⟩
   exact ⟨iA,_,ic,sA,_,sc,dA,dc,rfl,hn⟩
  ·have h:=mo_0 k hk2
   unfold good0 at h
   unfold Hid
   simp only [List.append_nil] at h ⊢
   by_cases h3:30<k
   ·rw [if_pos h3] at h ⊢
    simpa using h
   ·rw [if_neg h3] at h ⊢
    simpa using h
 have HT:=Lib.hid ht
 have HM:=Lib.hid hm
 clear ht hm
 go_enter Tryz.func6,Tryz.ntmps6
 go_wp2_with fail
 refine (pbegun_any w HT.out HM.out).mono ?_;rintro e w1 ⟨rfl,hb⟩
 have HB:=Lib.hid hb
 clear hb
 go_wp2_with fail
 go_loopw [6,9] (fun sv iv wr=>∃ (i:Nat) (s:ByteArray),sv = .string s∧iv = .int .i64 (i:Int)∧i≤k∧Hid (Tx s (moR [] [101,110,117,109,32,69,123,65,125,32] i))∧wr=w1) (fun _ iv _=>45 - (intOf iv).toNat)
 case atStart=>exact ⟨0,_,rfl,rfl,Nat.zero_le _,rfl,rfl⟩
 case round =>
  obtain ⟨i,s,rfl,rfl,hi,HS,hwr⟩:=hrel
  subst hwr
  have hsl:s.size≤1000:=by
   rw [HS.out.size,moR_len]
   simp only [List.length_cons,List.length_nil]
   omega
  by_cases hlt:i<k
  ·have hkd:decide ((i:Int)<(k:Int))=true:=decide_eq_true (by omega)
   have hiI:(i:Int)<(k:Int):=by omega
   go_wp2_with fail
   go_roundw
   case rel=>exact ⟨i+1,_,rfl,by go_num,hlt,txApp0 HS.out (Tx.of [101,110,117,109,32,69,123,65,125,32]),by trivial⟩
   case measure=>simp [intOf];omega
  ·obtain rfl:i=k:=by omega
   clear hlt hi
   go_wp2_with fail
   refine (HP.out s HS.out _ (HT.out.nx HB.out) (HM.out.nx HB.out)).mono ?_;rintro e w9 ⟨iA,im,ic,sA,sm,sc,dA,dc,rfl,hw9⟩
   obtain ⟨g,hg⟩:∃ g,w9.heap.size=g:=⟨_,rfl⟩
   have hB:=Blk.new w9 #[.slice iA im ic,.slice sA sm sc,.slice dA dn dc] 27
   rw [hg] at hB
   have HBk:=Lib.hid hB
   have hn10:Nx w9 _:=nx0 w9 (.cells #[.slice iA im ic,.slice sA sm sc,.slice dA dn dc] 27)
   have HN10:Hid (Nx w _):=Nx.trans HB.out (Nx.trans hw9 hn10)
   clear hn10 hw9 hB
   go_upto_region 44 with (fail)
   generalize World.alloc w9 _=w10 at *
   clear hg
   have c2:w10.cell? ⟨g,2,none⟩=some (.slice dA dn dc):=HBk.out.cell 2
   have hG:=hgood.out
   by_cases h3:30<i
   ·rw [if_pos h3] at hG
    subst hG
    have h3I:(30:Int)<(i:Int):=by omega
    have h3d:decide ((30:Int)<(i:Int))=true:=decide_eq_true h3I
    go_wp2_with fail
    go_ret
    exact ⟨rfl,HN10.out⟩
   ·rw [if_neg h3] at hG
    obtain ⟨rfl,rfl⟩:=hG
    have h3I:¬ (30:Int)<(dn:Int):=by omega
    have h3d:decide ((30:Int)<(dn:Int))=false:=decide_eq_false h3I
    by_cases h1:dn=1
    ·subst h1
     go_wp2_with fail
     go_ret
     exact ⟨rfl,HN10.out⟩
    have h1d:((dn:Int) == 1)=false:=by simp;omega
    go_wp2_with fail
    go_ret
    exact ⟨rfl,HN10.out⟩
end Go.Proofs.YtbblfkdmkpkmcaaGreatDoor
namespace Go.Proofs.YtbblfkdmkpkmcaaGreatDoor
open Go.RowKit
theorem txApp1 {a b:ByteArray} {la lb:List UInt8} (h:Tx a la) (g:Tx b lb):Tx (a++b) (la++lb):=by
 unfold Tx at *
 rw [← h,← g]
 simp [ByteArray.data_append]
set_option maxRecDepth 100000 in
set_option maxHeartbeats 6400000 in
theorem most_walk1 (n which:Int) (w:World) (ht:TabK w) (hm:MaxC w) (hn0:0≤n) (hn1:n≤255) (hw0:0≤which) (hw1:which≤255) (hq:which % 6=1) :
  Calls Tryz.prog 6 #[.int .u8 n,.int .u8 which] w fun e w'=>e = .returned (.bool true)∧Nx w w':=by
 obtain ⟨k,hk,hk2⟩:∃ k:Nat,n % 45=(k:Int)∧k<45:=⟨(n % 45).toNat,by omega,by omega⟩
 have hkI:(k:Int)<45:=by omega
 obtain ⟨er,pl,dn,HP,hgood⟩:∃ er pl dn:Nat,Hid (∀ s,Tx s (moR [115,116,114,117,99,116,32,83,32,123] [105,56,32,97,44] k)→∀ w,TabK w→MaxC w→Calls Tryz.prog 11 #[.string (s++⟨#[125]⟩)] w fun e w'=>∃ (iA:Option Addr) (im ic:Nat) (sA:Option Addr) (sm sc:Nat) (dA:Option Addr) (dc:Nat),e = .returned (.tuple #[.agg #[.slice iA im ic,.slice sA sm sc,.slice dA dn dc],.int .i64 (er:Int),.int .i64 (pl:Int)])∧Nx w w')∧Hid (if 30<k then er=4 else er=0∧dn=1):=by
  refine ⟨(parseF (moR [115,116,114,117,99,116,32,83,32,123] [105,56,32,97,44] k++[125])).2.1,(parseF (moR [115,116,114,117,99,116,32,83,32,123] [105,56,32,97,44] k++[125])).2.2,(parseF (moR [115,116,114,117,99,116,32,83,32,123] [105,56,32,97,44] k++[125])).1.defs.length,?_,?_⟩
  ·intro s hs w ht hm
   have hl:((moR [115,116,114,117,99,116,32,83,32,123] [105,56,32,97,44] k++[125]).length:Int)≤140737488355328:=by
    rw [List.length_append,moR_len]
    simp only [List.length_cons,List.length_nil]
    omega
   refine (pgen w (s++⟨#[125]⟩) (moR [115,116,114,117,99,116,32,83,32,123] [105,56,32,97,44] k++[125]) (txApp1 hs (Tx.of [125])) hl ht hm).mono ?_
   rintro e w' ⟨iA,ic,sA,sc,dA,dc,rfl,hr,hn⟩
   exact ⟨iA,_,ic,sA,_,sc,dA,dc,rfl,hn⟩
  ·have h:=mo_1 k hk2
   unfold goodR at h
   unfold Hid
   simp only [] at h ⊢
   by_cases h3:30<k
   ·rw [if_pos h3] at h ⊢
    simpa using h
   ·rw [if_neg h3] at h ⊢
    simpa using h
 have HT:=Lib.hid ht
 have HM:=Lib.hid hm
 clear ht hm
 go_enter Tryz.func6,Tryz.ntmps6
 go_wp2_with fail
 refine (pbegun_any w HT.out HM.out).mono ?_;rintro e w1 ⟨rfl,hb⟩
 have HB:=Lib.hid hb
 clear hb
 go_wp2_with fail
 go_loopw [6,10] (fun sv iv wr=>∃ (i:Nat) (s:ByteArray),sv = .string s∧iv = .int .i64 (i:Int)∧i≤k∧Hid (Tx s (moR [115,116,114,117,99,116,32,83,32,123] [105,56,32,97,44] i))∧wr=w1) (fun _ iv _=>45 - (intOf iv).toNat)
 case atStart=>exact ⟨0,_,rfl,rfl,Nat.zero_le _,rfl,rfl⟩
 case round =>
  obtain ⟨i,s,rfl,rfl,hi,HS,hwr⟩:=hrel
  subst hwr
  have hsl:s.size≤1000:=by
   rw [HS.out.size,moR_len]
   simp only [List.length_cons,List.length_nil]
   omega
  by_cases hlt:i<k
  ·have hkd:decide ((i:Int)<(k:Int))=true:=decide_eq_true (by omega)
   have hiI:(i:Int)<(k:Int):=by omega
   go_wp2_with fail
   go_roundw
   case rel=>exact ⟨i+1,_,rfl,by go_num,hlt,txApp1 HS.out (Tx.of [105,56,32,97,44]),by trivial⟩
   case measure=>simp [intOf];omega
  ·obtain rfl:i=k:=by omega
   clear hlt hi
   go_wp2_with fail
   refine (HP.out s HS.out _ (HT.out.nx HB.out) (HM.out.nx HB.out)).mono ?_;rintro e w9 ⟨iA,im,ic,sA,sm,sc,dA,dc,rfl,hw9⟩
   obtain ⟨g,hg⟩:∃ g,w9.heap.size=g:=⟨_,rfl⟩
   have hB:=Blk.new w9 #[.slice iA im ic,.slice sA sm sc,.slice dA dn dc] 27
   rw [hg] at hB
   have HBk:=Lib.hid hB
   have hn10:Nx w9 _:=nx0 w9 (.cells #[.slice iA im ic,.slice sA sm sc,.slice dA dn dc] 27)
   have HN10:Hid (Nx w _):=Nx.trans HB.out (Nx.trans hw9 hn10)
   clear hn10 hw9 hB
   go_upto_region 44 with (fail)
   generalize World.alloc w9 _=w10 at *
   clear hg
   have c2:w10.cell? ⟨g,2,none⟩=some (.slice dA dn dc):=HBk.out.cell 2
   have hG:=hgood.out
   by_cases h3:30<i
   ·rw [if_pos h3] at hG
    subst hG
    have h3I:(30:Int)<(i:Int):=by omega
    have h3d:decide ((30:Int)<(i:Int))=true:=decide_eq_true h3I
    go_wp2_with fail
    go_ret
    exact ⟨rfl,HN10.out⟩
   ·rw [if_neg h3] at hG
    obtain ⟨rfl,rfl⟩:=hG
    have h3I:¬ (30:Int)<(i:Int):=by omega
    have h3d:decide ((30:Int)<(i:Int))=false:=decide_eq_false h3I
    go_wp2_with fail
    go_ret
    exact ⟨rfl,HN10.out⟩
end Go.Proofs.YtbblfkdmkpkmcaaGreatDoor
namespace Go.Proofs.YtbblfkdmkpkmcaaGreatDoor
open Go.RowKit
theorem txApp2 {a b:ByteArray} {la lb:List UInt8} (h:Tx a la) (g:Tx b lb):Tx (a++b) (la++lb):=by
 unfold Tx at *
 rw [← h,← g]
 simp [ByteArray.data_append]
set_option maxRecDepth 100000 in
set_option maxHeartbeats 6400000 in
theorem most_walk2 (n which:Int) (w:World) (ht:TabK w) (hm:MaxC w) (hn0:0≤n) (hn1:n≤255) (hw0:0≤which) (hw1:which≤255) (hq:which % 6=2) :
  Calls Tryz.prog 6 #[.int .u8 n,.int .u8 which] w fun e w'=>e = .returned (.bool true)∧Nx w w':=by
 obtain ⟨k,hk,hk2⟩:∃ k:Nat,n % 45=(k:Int)∧k<45:=⟨(n % 45).toNat,by omega,by omega⟩
 have hkI:(k:Int)<45:=by omega
 obtain ⟨er,pl,dn,HP,hgood⟩:∃ er pl dn:Nat,Hid (∀ s,Tx s (moR [101,110,117,109,32,83,32,123] [97,59] k)→∀ w,TabK w→MaxC w→Calls Tryz.prog 11 #[.string (s++⟨#[125]⟩)] w fun e w'=>∃ (iA:Option Addr) (im ic:Nat) (sA:Option Addr) (sm sc:Nat) (dA:Option Addr) (dc:Nat),e = .returned (.tuple #[.agg #[.slice iA im ic,.slice sA sm sc,.slice dA dn dc],.int .i64 (er:Int),.int .i64 (pl:Int)])∧Nx w w')∧Hid (if 30<k then er=4 else er=0∧dn=1):=by
  refine ⟨(parseF (moR [101,110,117,109,32,83,32,123] [97,59] k++[125])).2.1,(parseF (moR [101,110,117,109,32,83,32,123] [97,59] k++[125])).2.2,(parseF (moR [101,110,117,109,32,83,32,123] [97,59] k++[125])).1.defs.length,?_,?_⟩
  ·intro s hs w ht hm
   have hl:((moR [101,110,117,109,32,83,32,123] [97,59] k++[125]).length:Int)≤140737488355328:=by
    rw [List.length_append,moR_len]
    simp only [List.length_cons,List.length_nil]
    omega
   refine (pgen w (s++⟨#[125]⟩) (moR [101,110,117,109,32,83,32,123] [97,59] k++[125]) (txApp2 hs (Tx.of [125])) hl ht hm).mono ?_
   rintro e w' ⟨iA,ic,sA,sc,dA,dc,rfl,hr,hn⟩
   exact ⟨iA,_,ic,sA,_,sc,dA,dc,rfl,hn⟩
  ·have h:=mo_2 k hk2
   unfold goodR at h
   unfold Hid
   simp only [] at h ⊢
   by_cases h3:30<k
   ·rw [if_pos h3] at h ⊢
    simpa using h
   ·rw [if_neg h3] at h ⊢
    simpa using h
 have HT:=Lib.hid ht
 have HM:=Lib.hid hm
 clear ht hm
 go_enter Tryz.func6,Tryz.ntmps6
 go_wp2_with fail
 refine (pbegun_any w HT.out HM.out).mono ?_;rintro e w1 ⟨rfl,hb⟩
 have HB:=Lib.hid hb
 clear hb
 go_wp2_with fail
 go_loopw [6,11] (fun sv iv wr=>∃ (i:Nat) (s:ByteArray),sv = .string s∧iv = .int .i64 (i:Int)∧i≤k∧Hid (Tx s (moR [101,110,117,109,32,83,32,123] [97,59] i))∧wr=w1) (fun _ iv _=>45 - (intOf iv).toNat)
 case atStart=>exact ⟨0,_,rfl,rfl,Nat.zero_le _,rfl,rfl⟩
 case round =>
  obtain ⟨i,s,rfl,rfl,hi,HS,hwr⟩:=hrel
  subst hwr
  have hsl:s.size≤1000:=by
   rw [HS.out.size,moR_len]
   simp only [List.length_cons,List.length_nil]
   omega
  by_cases hlt:i<k
  ·have hkd:decide ((i:Int)<(k:Int))=true:=decide_eq_true (by omega)
   have hiI:(i:Int)<(k:Int):=by omega
   go_wp2_with fail
   go_roundw
   case rel=>exact ⟨i+1,_,rfl,by go_num,hlt,txApp2 HS.out (Tx.of [97,59]),by trivial⟩
   case measure=>simp [intOf];omega
  ·obtain rfl:i=k:=by omega
   clear hlt hi
   go_wp2_with fail
   refine (HP.out s HS.out _ (HT.out.nx HB.out) (HM.out.nx HB.out)).mono ?_;rintro e w9 ⟨iA,im,ic,sA,sm,sc,dA,dc,rfl,hw9⟩
   obtain ⟨g,hg⟩:∃ g,w9.heap.size=g:=⟨_,rfl⟩
   have hB:=Blk.new w9 #[.slice iA im ic,.slice sA sm sc,.slice dA dn dc] 27
   rw [hg] at hB
   have HBk:=Lib.hid hB
   have hn10:Nx w9 _:=nx0 w9 (.cells #[.slice iA im ic,.slice sA sm sc,.slice dA dn dc] 27)
   have HN10:Hid (Nx w _):=Nx.trans HB.out (Nx.trans hw9 hn10)
   clear hn10 hw9 hB
   go_upto_region 44 with (fail)
   generalize World.alloc w9 _=w10 at *
   clear hg
   have c2:w10.cell? ⟨g,2,none⟩=some (.slice dA dn dc):=HBk.out.cell 2
   have hG:=hgood.out
   by_cases h3:30<i
   ·rw [if_pos h3] at hG
    subst hG
    have h3I:(30:Int)<(i:Int):=by omega
    have h3d:decide ((30:Int)<(i:Int))=true:=decide_eq_true h3I
    go_wp2_with fail
    go_ret
    exact ⟨rfl,HN10.out⟩
   ·rw [if_neg h3] at hG
    obtain ⟨rfl,rfl⟩:=hG
    have h3I:¬ (30:Int)<(i:Int):=by omega
    have h3d:decide ((30:Int)<(i:Int))=false:=decide_eq_false h3I
    go_wp2_with fail
    go_ret
    exact ⟨rfl,HN10.out⟩
end Go.Proofs.YtbblfkdmkpkmcaaGreatDoor
namespace Go.Proofs.YtbblfkdmkpkmcaaGreatDoor
open Go.RowKit
theorem txApp3 {a b:ByteArray} {la lb:List UInt8} (h:Tx a la) (g:Tx b lb):Tx (a++b) (la++lb):=by
 unfold Tx at *
 rw [← h,← g]
 simp [ByteArray.data_append]
set_option maxRecDepth 100000 in
set_option maxHeartbeats 6400000 in
theorem most_walk3 (n which:Int) (w:World) (ht:TabK w) (hm:MaxC w) (hn0:0≤n) (hn1:n≤255) (hw0:0≤which) (hw1:which≤255) (hq:which % 6=3) :
  Calls Tryz.prog 6 #[.int .u8 n,.int .u8 which] w fun e w'=>e = .returned (.bool true)∧Nx w w':=by
 obtain ⟨k,hk,hk2⟩:∃ k:Nat,n % 45=(k:Int)∧k<45:=⟨(n % 45).toNat,by omega,by omega⟩
 have hkI:(k:Int)<45:=by omega
 obtain ⟨er,pl,dn,HP,hgood⟩:∃ er pl dn:Nat,Hid (∀ s,Tx s (moR [99,111,110,115,116,32,105,56,32,99,32,61,32,91] [49,32] k)→∀ w,TabK w→MaxC w→Calls Tryz.prog 11 #[.string (s++⟨#[93]⟩)] w fun e w'=>∃ (iA:Option Addr) (im ic:Nat) (sA:Option Addr) (sm sc:Nat) (dA:Option Addr) (dc:Nat),e = .returned (.tuple #[.agg #[.slice iA im ic,.slice sA sm sc,.slice dA dn dc],.int .i64 (er:Int),.int .i64 (pl:Int)])∧Nx w w')∧Hid (if 40<k then er=4 else er=0∧dn=1):=by
  refine ⟨(parseF (moR [99,111,110,115,116,32,105,56,32,99,32,61,32,91] [49,32] k++[93])).2.1,(parseF (moR [99,111,110,115,116,32,105,56,32,99,32,61,32,91] [49,32] k++[93])).2.2,(parseF (moR [99,111,110,115,116,32,105,56,32,99,32,61,32,91] [49,32] k++[93])).1.defs.length,?_,?_⟩
  ·intro s hs w ht hm
   have hl:((moR [99,111,110,115,116,32,105,56,32,99,32,61,32,91] [49,32] k++[93]).length:Int)≤140737488355328:=by
    rw [List.length_append,moR_len]
    simp only [List.length_cons,List.length_nil]
    omega
   refine (pgen w (s++⟨#[93]⟩) (moR [99,111,110,115,116,32,105,56,32,99,32,61,32,91] [49,32] k++[93]) (txApp3 hs (Tx.of [93])) hl ht hm).mono ?_
   rintro e w' ⟨iA,ic,sA,sc,dA,dc,rfl,hr,hn⟩
   exact ⟨iA,_,ic,sA,_,sc,dA,dc,rfl,hn⟩
  ·have h:=mo_3 k hk2
   unfold goodR at h
   unfold Hid
   simp only [] at h ⊢
   by_cases h3:40<k
   ·rw [if_pos h3] at h ⊢
    simpa using h
   ·rw [if_neg h3] at h ⊢
    simpa using h
 have HT:=Lib.hid ht
 have HM:=Lib.hid hm
 clear ht hm
 go_enter Tryz.func6,Tryz.ntmps6
 go_wp2_with fail
 refine (pbegun_any w HT.out HM.out).mono ?_;rintro e w1 ⟨rfl,hb⟩
 have HB:=Lib.hid hb
 clear hb
 go_wp2_with fail
 go_loopw [6,12] (fun sv iv wr=>∃ (i:Nat) (s:ByteArray),sv = .string s∧iv = .int .i64 (i:Int)∧i≤k∧Hid (Tx s (moR [99,111,110,115,116,32,105,56,32,99,32,61,32,91] [49,32] i))∧wr=w1) (fun _ iv _=>45 - (intOf iv).toNat)
 case atStart=>exact ⟨0,_,rfl,rfl,Nat.zero_le _,rfl,rfl⟩
 case round =>
  obtain ⟨i,s,rfl,rfl,hi,HS,hwr⟩:=hrel
  subst hwr
  have hsl:s.size≤1000:=by
   rw [HS.out.size,moR_len]
   simp only [List.length_cons,List.length_nil]
   omega
  by_cases hlt:i<k
  ·have hkd:decide ((i:Int)<(k:Int))=true:=decide_eq_true (by omega)
   have hiI:(i:Int)<(k:Int):=by omega
   go_wp2_with fail
   go_roundw
   case rel=>exact ⟨i+1,_,rfl,by go_num,hlt,txApp3 HS.out (Tx.of [49,32]),by trivial⟩
   case measure=>simp [intOf];omega
  ·obtain rfl:i=k:=by omega
   clear hlt hi
   go_wp2_with fail
   refine (HP.out s HS.out _ (HT.out.nx HB.out) (HM.out.nx HB.out)).mono ?_;rintro e w9 ⟨iA,im,ic,sA,sm,sc,dA,dc,rfl,hw9⟩
   obtain ⟨g,hg⟩:∃ g,w9.heap.size=g:=⟨_,rfl⟩
   have hB:=Blk.new w9 #[.slice iA im ic,.slice sA sm sc,.slice dA dn dc] 27
   rw [hg] at hB
   have HBk:=Lib.hid hB
   have hn10:Nx w9 _:=nx0 w9 (.cells #[.slice iA im ic,.slice sA sm sc,.slice dA dn dc] 27)
   have HN10:Hid (Nx w _):=Nx.trans HB.out (Nx.trans hw9 hn10)
   clear hn10 hw9 hB
   go_upto_region 44 with (fail)
   generalize World.alloc w9 _=w10 at *
   clear hg
   have c2:w10.cell? ⟨g,2,none⟩=some (.slice dA dn dc):=HBk.out.cell 2
   have hG:=hgood.out
   by_cases h3:40<i
   ·rw [if_pos h3] at hG
    subst hG
    have h3I:(40:Int)<(i:Int):=by omega
    have h3d:decide ((40:Int)<(i:Int))=true:=decide_eq_true h3I
    go_wp2_with fail
    go_ret
    exact ⟨rfl,HN10.out⟩
   ·rw [if_neg h3] at hG
    obtain ⟨rfl,rfl⟩:=hG
    have h3I:¬ (40:Int)<(i:Int):=by omega
    have h3d:decide ((40:Int)<(i:Int))=false:=decide_eq_false h3I
    go_wp2_with fail
    go_ret
    exact ⟨rfl,HN10.out⟩
end Go.Proofs.YtbblfkdmkpkmcaaGreatDoor
