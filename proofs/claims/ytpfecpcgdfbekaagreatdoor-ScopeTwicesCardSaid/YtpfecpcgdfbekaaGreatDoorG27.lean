/- The contract of strings.Clone: the same bytes. The copier of bundles: what it leaves alone; constants, copied. The copier of bundles: members. The copier of bundles: constants, however deep. Several values put into a block, one behind the other. Plain lemmas. -/
import Derived.Test.YtpfecpcgdfbekaaGreatDoorG01
import Derived.Lib.Strings
import Derived.Lib.Walk
import Derived.Lib.BufferWrite
import Derived.Lib.UnsafeStr
import Derived.Lib.Hide
import Derived.Laws.MakeOwn
import Derived.Test.YtpfecpcgdfbekaaGreatDoorG08
import Derived.Test.YtpfecpcgdfbekaaGreatDoorG09
import Derived.Test.YtpfecpcgdfbekaaGreatDoorG15
import Derived.Deep.CutBlock
import Derived.Deep.DeepCutAuto
import Derived.Laws.Rows
import Derived.Laws.ResultCell
import Derived.Test.YtpfecpcgdfbekaaGreatDoorG00
set_option linter.unusedVariables false
set_option linter.unusedSimpArgs false
set_option linter.unnecessarySimpa false
namespace Go.Proofs.YtpfecpcgdfbekaaGreatDoor
open Go.RowKit
theorem infoB8:(Tryz.prog.info? 5).map (fun i=>(i.zero,i.size,i.bytes))=some (some (.int .u8 0),1,1):=by kernel_rfl
set_option maxHeartbeats 4000000 in
set_option maxRecDepth 100000 in
theorem clone_in (s:ByteArray) (w:World) (hlim:s.size≤140737488355328) :
  Calls Tryz.prog 36 #[.string s] w fun e w'=>e = .returned (.string s)∧Nx w w':=by
 by_cases h0:s.size=0
 ·have hs:s=⟨#[]⟩:=by
   apply ByteArray.ext
   exact Array.eq_empty_of_size_eq_zero h0
  subst hs
  go_enter Tryz.func36,Tryz.ntmps36
  go_wp2_with fail
  go_ret
  exact ⟨rfl,Nx.refl _⟩
 ·obtain ⟨i0,hi,hz0,hz1,hz2⟩:=info_parts infoB8
  have hinfo:(Tryz.prog.info? 5).map (·.size)=some 1:=by rw [hi];simp [hz1]
  have hco:Tryz.prog.cellsOf 5 = 1:=by simp [Program.cellsOf,hi,hz1]
  obtain ⟨M,hM⟩:∃ M,M=madeCells (Value.int .u8 0).cells (((s.size:Nat):Int).toNat * i0.size):=⟨_,rfl⟩
  have hMs:M.size=s.size:=by rw [hM,size_madeCells,hz1];simp
  have hmk:∀ W:World,(Instr.makeSlice 22 (.int .i64 (s.size:Int)) (.int .i64 (s.size:Int))).run Tryz.prog W = .ok (.slice (some ⟨W.heap.size,0,none⟩) s.size s.size) (W.alloc (.cells M 5)):=fun W=>by
   have h:=run_make (P:=Tryz.prog) W 22 5 i0 (.int .u8 0) Tryz.underlying22 hi hz0 .i64 .i64 (s.size:Int) (s.size:Int) (by omega) (by omega) (by rw [hz2];omega) (by omega)
   rw [← hM] at h
   simpa using h
  clear hM
  have hcp:=Lib.run_copy_row_string (P:=Tryz.prog) (w.alloc (.cells M 5)) 22 9 3 5 w.heap.size 0 s.size s.size s M 5 Tryz.underlying22 hinfo (heap_alloc_new w _) (Nat.le_refl _) (by omega)
  obtain ⟨Y,hY⟩:∃ Y,Y=(M.toList.take 0++Lib.byteCells s.data.toList++M.toList.drop (0+s.size)).toArray:=⟨_,rfl⟩
  rw [← hY] at hcp
  have hYl:Y.toList=Lib.byteCells s.data.toList:=by
   rw [hY,List.toList_toArray,List.take_zero,List.nil_append,List.drop_of_length_le (by rw [Array.length_toList];omega),List.append_nil]
  have hYs:Y.size=s.size:=by rw [← Array.length_toList,hYl,Lib.byteCells_length,← Lib.size_eq]
  have hgY:((w.alloc (.cells M 5)).setRow w.heap.size Y).heap[w.heap.size]? = some (.cells Y 5 (0,0)):=setRow_heap _ _ M _ 5 (0,0) (heap_alloc_new w _)
  have hne:s.data.toList≠[]:=fun e=>h0 (by rw [Lib.size_eq,e];rfl)
  have hUS:=Lib.run_unsafeString_row (P:=Tryz.prog) ((w.alloc (.cells M 5)).setRow w.heap.size Y) 129 3 9 5 Tryz.underlying129 hco w.heap.size Y.size (by unfold World.shape?;rw [hgY]) s.data.toList hne (by rw [← Lib.size_eq];omega) (by rw [← Lib.size_eq];omega)
   (fun j x hx=>Lib.cells_of_row hgY Y.size j _ (by rw [List.take_of_length_le (by rw [Array.length_toList];exact Nat.le_refl _),hYl];simp [Lib.byteCells,hx]))
  rw [← Lib.size_eq] at hUS
  have hb1:Below w.heap.size w (w.alloc (.cells M 5)):=(Below.refl _ w).alloc (Nat.le_refl _) _
  have hb2:Below w.heap.size (w.alloc (.cells M 5)) ((w.alloc (.cells M 5)).setRow w.heap.size Y):=⟨rfl,rfl,rfl,by simp,fun k hk=>setRow_other _ _ _ _ (by omega)⟩
  have HB:=Lib.hid (Lib.below_freeze (hb1.trans hb2) (p:=⟨w.heap.size,0,none⟩) (Nat.le_refl _) s.size)
  clear hY hb1 hb2
  go_enter Tryz.func36,Tryz.ntmps36
  go_wp2
  go_ret
  exact ⟨rfl,HB.out⟩
theorem clone_any (w:World) (s:ByteArray) (l:List UInt8) (hl:Tx s l) (h:l.length≤140737488355328) :
  Calls Tryz.prog 21 #[.string s] w fun e w'=>e = .returned (.string ⟨l.toArray⟩)∧Nx w w':=by
 have hs:s.size≤140737488355328:=by rw [hl.size];exact h
 obtain rfl:=hl.eq
 have H:=Lib.hid (clone_in ⟨l.toArray⟩ w hs)
 clear hl hs
 go_enter Tryz.func21,Tryz.ntmps21
 go_wp2_with fail
 refine H.out.mono ?_;rintro e w' ⟨rfl,hn⟩
 go_wp2_with fail
 go_ret
 exact ⟨rfl,hn⟩
end Go.Proofs.YtpfecpcgdfbekaaGreatDoor
namespace Go.Proofs.YtpfecpcgdfbekaaGreatDoor
open Go.RowKit
def Ltg (gc g:Nat):Prop:=g<gc
def Cp (gc:Nat) (w:World):Prop:=∃ n:Nat,n≤64000∧Blk w gc gc #[.int .i64 (n:Int)] 190
theorem Cp.nx {gc:Nat} {w w':World} (h:Cp gc w) (hn:Nx w w'):Cp gc w':=by
 obtain ⟨n,h1,h2⟩:=h
 exact ⟨n,h1,h2.below hn⟩
theorem Cp.lt {gc:Nat} {w:World} (h:Cp gc w):gc<w.heap.size:=by
 obtain ⟨n,-,h2⟩:=h
 exact h2.lt
def IsSl (v:Value):Prop:=∃ A n c,v = .slice A n c
theorem mvO {gc:Nat} {w w':World} (h:Oth gc w w'):Mv (Ltg gc) (Ltg gc) w w':=⟨fun g hg hl=>h.block g hl (by have:g<gc:=hg;omega),fun g hg _=>hg⟩
def conB:Nat→Con→Bool
 | 0,_=>false
 | n+1,.mk k m d s l=>decide (s.length≤8000) && decide (l.length≤1000) && l.all (conB n)
theorem conB_of {n k:Nat} {m:Int} {d:Nat} {s:List UInt8} {l:List Con} (h:conB (n+1) (.mk k m d s l)=true):s.length≤8000∧l.length≤1000∧∀ c ∈ l,conB n c=true:=by
 simp only [conB,Bool.and_eq_true,decide_eq_true_eq,List.all_eq_true] at h
 exact ⟨h.1.1,h.1.2,h.2⟩
section
variable {α β:Type} {f:α→Array Value} {k:Nat} {T:TypeId} {R:World→(Nat→Prop)→α→β→Prop}
theorem cp_app {gc:Nat} {w0 w w':World} {v v':Value} {l:List β} (hr:RepL f k T R w (Fm w0.heap.size) v l) (ho:Oth gc w0 w) (hc:Cp gc w) (hg:gc<w0.heap.size) (hf:Fr gc v w v' w')
  (hk:∀ k,k<w.heap.size→v.ownBlock≠some k→w'.heap[k]? = w.heap[k]?):Oth gc w0 w'∧Cp gc w':=by
 have hv:∀ k,k<w0.heap.size→v.ownBlock≠some k:=fun k hk e=>by have:w0.heap.size≤k:=(RepL.own_lt hr k e).1;omega
 refine ⟨⟨hf.os.trans ho.os,hf.tape.trans ho.tape,hf.output.trans ho.output,Nat.le_trans ho.size hf.size,fun j hj hne=>(hk j (Nat.lt_of_lt_of_le hj ho.size) (hv j hj)).trans (ho.block j hj hne)⟩,?_⟩
 obtain ⟨n,h1,h2⟩:=hc
 exact ⟨n,h1,h2.1,(hk gc h2.lt (hv gc hg)).trans h2.2⟩
theorem made_nil {B n z:Nat} {w:World} {M:Array Value} (hM:M.size=n * k) (hB:B≤w.heap.size) (hn:n≤maxLen):RepL f k T R (w.alloc (.cells M T)) (Fm B) (.slice (some ⟨w.heap.size,0,none⟩) 0 n) ([]:List β):=by
 refine ⟨[],⟨⟨by simp [rowL],.inr ⟨w.heap.size,n,M,rfl,Nat.zero_le _,heap_alloc_new w _,Nat.zero_le _,hn,hM,by simp [rowL]⟩⟩,fun g e=>?_⟩,trivial⟩
 cases e
 exact hB
end
def RTr {α β:Type} (_:World) (_:Nat→Prop) (_:α) (_:β):Prop:=True
theorem RTr.lasts {α β:Type}:Lasts (RTr (α:=α) (β:=β)):=fun _ _ _ _=>trivial
theorem rc_sl {n:Nat} {w:World} {P:Nat→Prop} {x:ConS} {c:Con} (h:RC n w P x c):IsSl x.l:=by
 cases n with
 | zero=>exact h.elim
 | succ n =>
  obtain ⟨l,-,h2⟩:=RC.of h
  obtain ⟨A,c,_,e,-⟩:=h2.sl conA_size
  exact ⟨_,_,_,e⟩
def CnC (gc n:Nat):Prop:=∀ (w:World) (x:ConS) (c:Con),Cp gc w→RC n w (Ltg gc) x c→conB n c=true →
 Calls Tryz.prog 130 #[.pointer (some ⟨gc,0,none⟩),.agg (conA x)] w fun e w'=>∃ s v,e = .returned (.agg (conA ⟨x.k,x.n,x.d,s,v⟩))∧IsSl v∧Oth gc w w'∧Cp gc w'
def EcC (gc n:Nat):Prop:=∀ (w:World) (v:Value) (l:List Con),Cp gc w→RepL conA 5 51 (RC n) w (Ltg gc) v l→(∀ c ∈ l,conB n c=true)→l.length≤1000 →
 Calls Tryz.prog 146 #[v,.func (.func 130) #[.pointer (some ⟨gc,0,none⟩)] #[]] w fun e w'=>∃ v',e = .returned v'∧IsSl v'∧Oth gc w w'∧Cp gc w'
set_option maxRecDepth 100000 in
set_option maxHeartbeats 3200000 in
theorem eachC_of {gc n:Nat} (hC:CnC gc n):EcC gc n:=by
 intro w v l hcp hrep hok hlen
 obtain ⟨A,cp,xs,rfl,hxl,hlc,hcm,hrd,hall⟩:=hrep.sl conA_size
 have HREP:=Lib.hid hrep
 have HRD:=Lib.hid hrd
 have HALL:=Lib.hid hall
 have HOK:=Lib.hid hok
 have HCP:=Lib.hid hcp
 have HC:=Lib.hid hC
 have HXL:=Lib.hid hxl
 obtain ⟨N,hN⟩:∃ N,l.length=N:=⟨_,rfl⟩
 have HN:=Lib.hid hN
 rw [hN] at hlen ⊢
 have hN9:(N:Int)≤1000:=by omega
 have HN9:=Lib.hid hlen
 obtain ⟨B,hB⟩:∃ B,w.heap.size=B:=⟨_,rfl⟩
 have HB:=Lib.hid hB
 have HGB:Hid (gc<B):=by unfold Hid;rw [← hB];exact hcp.lt
 obtain ⟨i0,hi,hz0,hz1,hz2⟩:=info_parts infoC
 obtain ⟨M,hM⟩:∃ M,M=madeCells (Value.cells (.agg #[.int .i64 0,.int .i64 0,.int .u64 0,.string ⟨#[]⟩,.slice none 0 0])) (((N:Nat):Int).toNat * i0.size):=⟨_,rfl⟩
 have hMs:M.size=N * 5:=by rw [hM,size_madeCells,hz1];simp
 have hmk:∀ W:World,(Instr.makeSlice 49 (.int .i64 0) (.int .i64 (N:Int))).run Tryz.prog W = .ok (.slice (some ⟨W.heap.size,0,none⟩) 0 N) (W.alloc (.cells M 51)):=fun W=>by
  have h:=run_make (P:=Tryz.prog) W 49 51 i0 _ Tryz.underlying49 hi hz0 .i64 .i64 0 (N:Int) (by omega) (by omega) (by rw [hz2];omega) (by omega)
  rw [← hM] at h
  simpa using h
 have HRM:Hid (RepL conA 5 51 (RTr (α:=ConS) (β:=Con)) (w.alloc (.cells M 51)) (Fm w.heap.size) (.slice (some ⟨B,0,none⟩) 0 N) (l.take 0)):=by
  unfold Hid;rw [List.take_zero,← hB];exact made_nil (z:=0) hMs (Nat.le_refl _) (by simp [maxLen];omega)
 have HN1:Hid (Nx w (w.alloc (.cells M 51))):=nx0 _ _
 clear hM hi hz0 hz1 hz2 hMs hrep hrd hall hok hcp hC hxl hN hlc hcm hlen
 go_enter Tryz.func146,Tryz.ntmps146
 go_wp2_with fail
 generalize World.alloc w _=w1 at *
 clear hB
 go_loopw [5,13] (fun u v wr=>∃ i:Nat,v = .int .i64 (i:Int)∧i≤N∧RepL conA 5 51 (RTr (α:=ConS) (β:=Con)) wr (Fm w.heap.size) u (l.take i)∧Oth gc w wr∧Cp gc wr) (fun _ v _=>(N - intOf v).toNat)
 case atStart=>exact ⟨0,rfl,Nat.zero_le _,HRM.out,Oth.nx HN1.out,HCP.out.nx HN1.out⟩
 case round =>
  obtain ⟨i,rfl,hi,hrep,ho,hcp⟩:=hrel
  obtain ⟨uA,un,uc,rfl⟩:∃ A n c,u5 = .slice A n c:=by
   obtain ⟨A,c,_,h,-⟩:=hrep.sl conA_size
   exact ⟨_,_,_,h⟩
  have HREP2:=Lib.hid hrep
  have HO:=Lib.hid ho
  have HCP2:=Lib.hid hcp
  clear hrep ho hcp
  by_cases hlt:i<N
  ·have q1:decide ((i:Int)<(N:Int))=true:=decide_eq_true (by omega)
   have q2:(i:Int)<(N:Int):=by omega
   have hix:i<xs.length:=by rw [HXL.out,HN.out];exact hlt
   have hil:i<l.length:=by rw [HN.out];exact hlt
   obtain ⟨g,rfl,hg,hc⟩:=HRD.out (by omega)
   have hgg:g<gc:=(RepL.own_lt HREP.out g rfl).1
   have hrel:=HALL.out.at_ i hix hil
   have hcx:=HOK.out _ (List.getElem_mem hil)
   obtain ⟨⟨xk,xn,xd,xs',xl⟩,hx⟩:∃ x,xs[i]=x:=⟨_,rfl⟩
   obtain ⟨y,hy⟩:∃ y,l[i]=y:=⟨_,rfl⟩
   have htk:l.take (i+1)=l.take i++[y]:=by rw [List.take_succ_eq_append_getElem hil,hy]
   have hcell:∀ j,j<5→wr.cell? ⟨g,i * 5+j,none⟩=(conA ⟨xk,xn,xd,xs',xl⟩)[j]?:=fun j hj=>by
    rw [← hx,← hc i hix j hj]
    exact World.cell?_of_block (HO.out.block g hg (by omega))
   rw [hx,hy] at hrel
   rw [hy] at hcx
   have hrc:=RC.lasts n (mvO HO.out) (RC.lasts n ⟨fun _ _ _=>rfl,fun _ h _=>h.1⟩ hrel)
   have e0:wr.cell? ⟨g,i * 5,none⟩=some (.int .i64 (xk:Int)):=hcell 0 (by decide)
   have e1:wr.cell? ⟨g,i * 5+1,none⟩=some (.int .i64 xn):=hcell 1 (by decide)
   have e2:wr.cell? ⟨g,i * 5+2,none⟩=some (.int .u64 (xd:Int)):=hcell 2 (by decide)
   have e3:wr.cell? ⟨g,i * 5+3,none⟩=some (.string ⟨xs'.toArray⟩):=hcell 3 (by decide)
   have e4:wr.cell? ⟨g,i * 5+4,none⟩=some xl:=hcell 4 (by decide)
   have HTK:=Lib.hid htk
   have HLT:=Lib.hid hlt
   have HIL:Hid ((l.take i).length=i):=by unfold Hid;rw [List.length_take];omega
   obtain ⟨zA,zu,zc,rfl⟩:∃ A k c,xl = .slice A k c:=rc_sl hrc
   have HRC:=Lib.hid hrc
   have HCX:=Lib.hid hcx
   clear hcell hx hy hrel hc htk hcx hrc hix hil
   go_upto_region 5 with (fail)
   obtain ⟨g7,hg7⟩:∃ g7,wr.heap.size=g7:=⟨_,rfl⟩
   have hB7:=Blk.new wr #[.int .i64 (xk:Int),.int .i64 xn,.int .u64 (xd:Int),.string ⟨xs'.toArray⟩,.slice zA zu zc] 51
   have hn7:=nx0 wr (.cells #[.int .i64 (xk:Int),.int .i64 xn,.int .u64 (xd:Int),.string ⟨xs'.toArray⟩,.slice zA zu zc] 51)
   rw [hg7] at hB7
   rw [hg7]
   generalize World.alloc wr _=w7 at *
   have HB7:=Lib.hid hB7
   have HN7:=Lib.hid hn7
   have HC7:=Lib.hid (HC.out w7 ⟨xk,xn,xd,xs',.slice zA zu zc⟩ y (HCP2.out.nx hn7) (RC.lasts n (mvO (Oth.nx hn7)) HRC.out) HCX.out)
   clear hg7 hB7 hn7 e0 e1 e2 e3 e4
   have t0:w7.cell? ⟨g7,0,none⟩=some (.int .i64 (xk:Int)):=HB7.out.cell 0
   have t1:w7.cell? ⟨g7,1,none⟩=some (.int .i64 xn):=HB7.out.cell 1
   have t2:w7.cell? ⟨g7,2,none⟩=some (.int .u64 (xd:Int)):=HB7.out.cell 2
   have t3:w7.cell? ⟨g7,3,none⟩=some (.string ⟨xs'.toArray⟩):=HB7.out.cell 3
   have t4:w7.cell? ⟨g7,4,none⟩=some (.slice zA zu zc):=HB7.out.cell 4
   go_wp2_with fail
   refine HC7.out.mono ?_;rintro e w8 ⟨s8,v8,rfl,⟨A8,n8,c8,rfl⟩,ho8,hcp8⟩
   rw [show conA ⟨xk,xn,xd,s8,.slice A8 n8 c8⟩=#[.int .i64 (xk:Int),.int .i64 xn,.int .u64 (xd:Int),.string ⟨s8.toArray⟩,.slice A8 n8 c8] from rfl]
   have HO8:=Lib.hid (HO.out.trans ((Oth.nx HN7.out).trans ho8))
   have HCP8:=Lib.hid hcp8
   have HR8:Hid (RepL conA 5 51 (RTr (α:=ConS) (β:=Con)) w8 (Fm w.heap.size) (.slice uA un uc) (l.take i)):=RepL.oth RTr.lasts HREP2.out ((Oth.nx HN7.out).trans ho8) (by rw [HB.out];exact HGB.out)
   have h63:((l.take i).length:Int)≤100000:=by rw [HIL.out];omega
   have hwB:w.heap.size≤w8.heap.size:=HO8.out.size
   have hgB:gc<w.heap.size:=by rw [HB.out];exact HGB.out
   have HONE:Hid (∀ u ∈ (conA ⟨xk,xn,xd,s8,.slice A8 n8 c8⟩).toList,u.oneCell'=true):=fun u hu=>by
    simp [conA,bt] at hu
    rcases hu with rfl | rfl | rfl | rfl | rfl <;> rfl
   have H63:=Lib.hid h63
   have HWB:=Lib.hid hwB
   have HGB2:=Lib.hid hgB
   clear ho8 hcp8 HC7 t0 t1 t2 t3 t4 HB7 HN7 h63 hwB hgB
   go_wp2_with (at_builtin;go_must (refine wpList_appL _ (RTr.lasts (α:=ConS) (β:=Con)) infoC Tryz.underlying49 rfl (by decide) (by decide) conA_size rfl _ _ rfl w.heap.size gc (.slice uA un uc) (l.take i) ⟨xk,xn,xd,s8,.slice A8 n8 c8⟩ y rfl (RepL.nx RTr.lasts HR8.out (nx0 _ _)) HONE.out _ rfl (fun j hj=>cell_newP (by simp)) trivial H63.out (Nat.le_trans HWB.out (nx0 _ _).size) HGB2.out ?_;intro v9 w9 hl9 hf9 hk9;have HL9:=Lib.hid hl9;have HX9:=Lib.hid (cp_app (RepL.nx RTr.lasts HR8.out (nx0 _ _)) (HO8.out.trans (Oth.nx (nx0 _ _))) (HCP8.out.nx (nx0 _ _)) HGB2.out hf9 hk9);clear hl9 hf9 hk9))
   go_roundw
   case rel=>exact ⟨i+1,by go_num,HLT.out,by rw [HTK.out];exact HL9.out,HX9.out.1,HX9.out.2⟩
   case measure=>have:=HLT.out;simp [intOf];omega
  ·have q1:decide ((i:Int)<(N:Int))=false:=decide_eq_false (by omega)
   have q2:¬ (i:Int)<(N:Int):=by omega
   clear hlt
   go_wp2_with fail
   go_ret
   exact ⟨_,rfl,⟨_,_,_,rfl⟩,HO.out,HCP2.out⟩
end Go.Proofs.YtpfecpcgdfbekaaGreatDoor
namespace Go.Proofs.YtpfecpcgdfbekaaGreatDoor
open Go.RowKit
def MmC (gc:Nat):Prop:=∀ (w:World) (x y:Mem),Cp gc w→REq w (Ltg gc) x y→decide (y.nm.length≤8000)=true →
 Calls Tryz.prog 134 #[.agg (memA x)] w fun e w'=>e = .returned (.agg (memA x))∧Oth gc w w'∧Cp gc w'
def EmC (gc:Nat):Prop:=∀ (w:World) (v:Value) (l:List Mem),Cp gc w→RepL memA 3 153 (REq (α:=Mem)) w (Ltg gc) v l→(∀ c ∈ l,decide (c.nm.length≤8000)=true)→l.length≤1000 →
 Calls Tryz.prog 133 #[v,.func (.func 134) #[] #[]] w fun e w'=>∃ v',e = .returned v'∧IsSl v'∧Oth gc w w'∧Cp gc w'
set_option maxRecDepth 100000 in
set_option maxHeartbeats 3200000 in
theorem copyMember_any (gc:Nat):MmC gc:=by
 intro w x y hcp hxy hok
 obtain rfl:x=y:=hxy
 obtain ⟨mn,mh,mi⟩:=x
 have hl:mn.length≤8000:=of_decide_eq_true hok
 have HL:Hid (mn.length≤140737488355328):=by unfold Hid;omega
 have HCP:=Lib.hid hcp
 obtain ⟨gx,hgx⟩:∃ g,w.heap.size=g:=⟨_,rfl⟩
 obtain ⟨gr,hgr⟩:∃ g,gx+1=g:=⟨_,rfl⟩
 obtain ⟨w1,hw⟩:∃ w1,(w.alloc (.cells #[.string ⟨mn.toArray⟩,.bool mh,.int .i64 mi] 153)).alloc (.cells #[.string ⟨#[]⟩,.bool false,.int .i64 0] 153)=w1:=⟨_,rfl⟩
 have HBX:Hid (Blk w1 gx gx #[.string ⟨mn.toArray⟩,.bool mh,.int .i64 mi] 153):=by
  unfold Hid;rw [← hw,← hgx];exact (Blk.new w _ _).alloc _
 have HBR:Hid (Blk w1 gx gr #[.string ⟨#[]⟩,.bool false,.int .i64 0] 153):=by
  unfold Hid;rw [← hw,← hgr,← hgx,show w.heap.size+1=(w.alloc (.cells #[.string ⟨mn.toArray⟩,.bool mh,.int .i64 mi] 153)).heap.size from by simp]
  exact (Blk.new (w.alloc (.cells #[.string ⟨mn.toArray⟩,.bool mh,.int .i64 mi] 153)) _ _).less (by simp)
 have HN1:Hid (Nx w w1):=by unfold Hid;rw [← hw];exact Nx.al (nx0 w _) _
 have HGX:=Lib.hid hgx
 have hne3:gx≠gr:=by omega
 have HGR:Hid (gx<gr):=by unfold Hid;omega
 show Calls _ _ #[.agg #[.string ⟨mn.toArray⟩,.bool mh,.int .i64 mi]] _ _
 clear hcp hok
 go_enter Tryz.func134,Tryz.ntmps134
 go_upto_region 1 with (fail)
 try rw [hw]
 clear hw hgx hgr
 have x0:w1.cell? ⟨gx,0,none⟩=some (.string ⟨mn.toArray⟩):=HBX.out.cell 0
 go_wp2_with fail
 refine (clone_any w1 _ mn (Tx.of _) HL.out).mono ?_;rintro e w3 ⟨rfl,hn3⟩
 have hx3:=HBX.out.below hn3
 have hr3:=HBR.out.below hn3
 have HX3:=Lib.hid hx3
 have HR3:=Lib.hid hr3
 have HN3:=Lib.hid (HN1.out.trans hn3)
 clear x0
 have x0:w3.cell? ⟨gx,0,none⟩=some (.string ⟨mn.toArray⟩):=hx3.cell 0
 have x1:w3.cell? ⟨gx,1,none⟩=some (.bool mh):=hx3.cell 1
 have x2:w3.cell? ⟨gx,2,none⟩=some (.int .i64 mi):=hx3.cell 2
 have f0:=hx3.free 0
 have y0:w3.cell? ⟨gr,0,none⟩=some (.string ⟨#[]⟩):=hr3.cell 0
 have y1:w3.cell? ⟨gr,1,none⟩=some (.bool false):=hr3.cell 1
 have y2:w3.cell? ⟨gr,2,none⟩=some (.int .i64 0):=hr3.cell 2
 have r0:=hr3.free 0
 have r1:=hr3.free 1
 have r2:=hr3.free 2
 clear hx3 hr3 hn3
 go_wp2_with fail
 have hb2:=(((HR3.out.other (k:=gx) hne3 0 (.string ⟨mn.toArray⟩)).put 0 (.string ⟨mn.toArray⟩)).put 1 (.bool mh)).put 2 (.int .i64 mi)
 refine bodyPost_ret (results_cell_row rfl _ _ gr _ _ _ _ rfl hb2.2 Tryz.underlying153 rfl (by kernel_rfl)) rfl ?_
 have hxw:w.heap.size≤gx:=by rw [HGX.out];exact Nat.le_refl _
 have hrw:w.heap.size≤gr:=by have:=HGR.out;omega
 have hn:Nx w _:=(((HN3.out.put' hxw 0 (.string ⟨mn.toArray⟩)).put' hrw 0 (.string ⟨mn.toArray⟩)).put' hrw 1 (.bool mh)).put' hrw 2 (.int .i64 mi)
 exact ⟨rfl,Oth.nx hn,HCP.out.nx hn⟩
set_option maxRecDepth 100000 in
set_option maxHeartbeats 3200000 in
theorem eachM_of {gc:Nat} (hC:MmC gc):EmC gc:=by
 intro w v l hcp hrep hok hlen
 obtain ⟨A,cp,xs,rfl,hxl,hlc,hcm,hrd,hall⟩:=hrep.sl memA_size
 have HREP:=Lib.hid hrep
 have HRD:=Lib.hid hrd
 have HALL:=Lib.hid hall
 have HOK:=Lib.hid hok
 have HCP:=Lib.hid hcp
 have HC:=Lib.hid hC
 have HXL:=Lib.hid hxl
 obtain ⟨N,hN⟩:∃ N,l.length=N:=⟨_,rfl⟩
 have HN:=Lib.hid hN
 rw [hN] at hlen ⊢
 have hN9:(N:Int)≤1000:=by omega
 obtain ⟨B,hB⟩:∃ B,w.heap.size=B:=⟨_,rfl⟩
 have HB:=Lib.hid hB
 have HGB:Hid (gc<B):=by unfold Hid;rw [← hB];exact hcp.lt
 obtain ⟨i0,hi,hz0,hz1,hz2⟩:=info_parts infoM
 obtain ⟨M,hM⟩:∃ M,M=madeCells (Value.cells (.agg #[.string ⟨#[]⟩,.bool false,.int .i64 0])) (((N:Nat):Int).toNat * i0.size):=⟨_,rfl⟩
 have hMs:M.size=N * 3:=by rw [hM,size_madeCells,hz1];simp
 have hmk:∀ W:World,(Instr.makeSlice 53 (.int .i64 0) (.int .i64 (N:Int))).run Tryz.prog W = .ok (.slice (some ⟨W.heap.size,0,none⟩) 0 N) (W.alloc (.cells M 153)):=fun W=>by
  have h:=run_make (P:=Tryz.prog) W 53 153 i0 _ Tryz.underlying53 hi hz0 .i64 .i64 0 (N:Int) (by omega) (by omega) (by rw [hz2];omega) (by omega)
  rw [← hM] at h
  simpa using h
 have HRM:Hid (RepL memA 3 153 (RTr (α:=Mem) (β:=Mem)) (w.alloc (.cells M 153)) (Fm w.heap.size) (.slice (some ⟨B,0,none⟩) 0 N) (l.take 0)):=by
  unfold Hid;rw [List.take_zero,← hB];exact made_nil (z:=0) hMs (Nat.le_refl _) (by simp [maxLen];omega)
 have HN1:Hid (Nx w (w.alloc (.cells M 153))):=nx0 _ _
 clear hM hi hz0 hz1 hz2 hMs hrep hrd hall hok hcp hC hxl hN hlc hcm hlen
 go_enter Tryz.func133,Tryz.ntmps133
 go_wp2_with fail
 generalize World.alloc w _=w1 at *
 clear hB
 go_loopw [5,13] (fun u v wr=>∃ i:Nat,v = .int .i64 (i:Int)∧i≤N∧RepL memA 3 153 (RTr (α:=Mem) (β:=Mem)) wr (Fm w.heap.size) u (l.take i)∧Oth gc w wr∧Cp gc wr) (fun _ v _=>(N - intOf v).toNat)
 case atStart=>exact ⟨0,rfl,Nat.zero_le _,HRM.out,Oth.nx HN1.out,HCP.out.nx HN1.out⟩
 case round =>
  obtain ⟨i,rfl,hi,hrep,ho,hcp⟩:=hrel
  obtain ⟨uA,un,uc,rfl⟩:∃ A n c,u5 = .slice A n c:=by
   obtain ⟨A,c,_,h,-⟩:=hrep.sl memA_size
   exact ⟨_,_,_,h⟩
  have HREP2:=Lib.hid hrep
  have HO:=Lib.hid ho
  have HCP2:=Lib.hid hcp
  clear hrep ho hcp
  by_cases hlt:i<N
  ·have q1:decide ((i:Int)<(N:Int))=true:=decide_eq_true (by omega)
   have q2:(i:Int)<(N:Int):=by omega
   have hix:i<xs.length:=by rw [HXL.out,HN.out];exact hlt
   have hil:i<l.length:=by rw [HN.out];exact hlt
   obtain ⟨g,rfl,hg,hc⟩:=HRD.out (by omega)
   have hgg:g<gc:=(RepL.own_lt HREP.out g rfl).1
   have hrel:=HALL.out.at_ i hix hil
   have hcx:=HOK.out _ (List.getElem_mem hil)
   obtain ⟨⟨mn,mh,mi⟩,hx⟩:∃ x,xs[i]=x:=⟨_,rfl⟩
   obtain ⟨y,hy⟩:∃ y,l[i]=y:=⟨_,rfl⟩
   have htk:l.take (i+1)=l.take i++[y]:=by rw [List.take_succ_eq_append_getElem hil,hy]
   have hcell:∀ j,j<3→wr.cell? ⟨g,i * 3+j,none⟩=(memA ⟨mn,mh,mi⟩)[j]?:=fun j hj=>by
    rw [← hx,← hc i hix j hj]
    exact World.cell?_of_block (HO.out.block g hg (by omega))
   rw [hx,hy] at hrel
   rw [hy] at hcx
   have hrc:=REq.lasts (mvO HO.out) (REq.lasts ⟨fun _ _ _=>rfl,fun _ h _=>h.1⟩ hrel)
   have e0:wr.cell? ⟨g,i * 3,none⟩=some (.string ⟨mn.toArray⟩):=hcell 0 (by decide)
   have e1:wr.cell? ⟨g,i * 3+1,none⟩=some (.bool mh):=hcell 1 (by decide)
   have e2:wr.cell? ⟨g,i * 3+2,none⟩=some (.int .i64 mi):=hcell 2 (by decide)
   have HTK:=Lib.hid htk
   have HLT:=Lib.hid hlt
   have HIL:Hid ((l.take i).length=i):=by unfold Hid;rw [List.length_take];omega
   have HRC:=Lib.hid hrc
   have HCX:=Lib.hid hcx
   clear hcell hx hy hrel hc htk hcx hrc hix hil
   go_upto_region 5 with (fail)
   obtain ⟨g7,hg7⟩:∃ g7,wr.heap.size=g7:=⟨_,rfl⟩
   have hB7:=Blk.new wr #[.string ⟨mn.toArray⟩,.bool mh,.int .i64 mi] 153
   have hn7:=nx0 wr (.cells #[.string ⟨mn.toArray⟩,.bool mh,.int .i64 mi] 153)
   rw [hg7] at hB7
   rw [hg7]
   generalize World.alloc wr _=w7 at *
   have HB7:=Lib.hid hB7
   have HN7:=Lib.hid hn7
   have HC7:=Lib.hid (HC.out w7 ⟨mn,mh,mi⟩ y (HCP2.out.nx hn7) (REq.lasts (mvO (Oth.nx hn7)) HRC.out) HCX.out)
   clear hg7 hB7 hn7 e0 e1 e2
   have t0:w7.cell? ⟨g7,0,none⟩=some (.string ⟨mn.toArray⟩):=HB7.out.cell 0
   have t1:w7.cell? ⟨g7,1,none⟩=some (.bool mh):=HB7.out.cell 1
   have t2:w7.cell? ⟨g7,2,none⟩=some (.int .i64 mi):=HB7.out.cell 2
   go_wp2_with fail
   refine HC7.out.mono ?_;rintro e w8 ⟨rfl,ho8,hcp8⟩
   rw [show memA ⟨mn,mh,mi⟩=#[.string ⟨mn.toArray⟩,.bool mh,.int .i64 mi] from rfl]
   have HO8:=Lib.hid (HO.out.trans ((Oth.nx HN7.out).trans ho8))
   have HCP8:=Lib.hid hcp8
   have HR8:Hid (RepL memA 3 153 (RTr (α:=Mem) (β:=Mem)) w8 (Fm w.heap.size) (.slice uA un uc) (l.take i)):=RepL.oth (RTr.lasts (α:=Mem) (β:=Mem)) HREP2.out ((Oth.nx HN7.out).trans ho8) (by rw [HB.out];exact HGB.out)
   have h63:((l.take i).length:Int)≤100000:=by rw [HIL.out];omega
   have hwB:w.heap.size≤w8.heap.size:=HO8.out.size
   have hgB:gc<w.heap.size:=by rw [HB.out];exact HGB.out
   have HONE:Hid (∀ u ∈ (memA ⟨mn,mh,mi⟩).toList,u.oneCell'=true):=fun u hu=>by
    simp [memA,bt] at hu
    rcases hu with rfl | rfl | rfl <;> rfl
   have H63:=Lib.hid h63
   have HWB:=Lib.hid hwB
   have HGB2:=Lib.hid hgB
   clear ho8 hcp8 HC7 t0 t1 t2 HB7 HN7 h63 hwB hgB
   go_wp2_with (at_builtin;go_must (refine wpList_appL _ (RTr.lasts (α:=Mem) (β:=Mem)) infoM Tryz.underlying53 rfl (by decide) (by decide) memA_size rfl _ _ rfl w.heap.size gc (.slice uA un uc) (l.take i) ⟨mn,mh,mi⟩ y rfl (RepL.nx (RTr.lasts (α:=Mem) (β:=Mem)) HR8.out (nx0 _ _)) HONE.out _ rfl (fun j hj=>cell_newP (by simp)) trivial H63.out (Nat.le_trans HWB.out (nx0 _ _).size) HGB2.out ?_;intro v9 w9 hl9 hf9 hk9;have HL9:=Lib.hid hl9;have HX9:=Lib.hid (cp_app (RepL.nx (RTr.lasts (α:=Mem) (β:=Mem)) HR8.out (nx0 _ _)) (HO8.out.trans (Oth.nx (nx0 _ _))) (HCP8.out.nx (nx0 _ _)) HGB2.out hf9 hk9);clear hl9 hf9 hk9))
   go_roundw
   case rel=>exact ⟨i+1,by go_num,HLT.out,by rw [HTK.out];exact HL9.out,HX9.out.1,HX9.out.2⟩
   case measure=>have:=HLT.out;simp [intOf];omega
  ·have q1:decide ((i:Int)<(N:Int))=false:=decide_eq_false (by omega)
   have q2:¬ (i:Int)<(N:Int):=by omega
   have hiN:i=N:=by omega
   have HTE:Hid (l.take i=l):=by unfold Hid;rw [hiN,← HN.out];exact List.take_length
   clear hlt hiN
   go_wp2_with fail
   go_ret
   exact ⟨_,rfl,⟨_,_,_,rfl⟩,HO.out,HCP2.out⟩
theorem eachM_any (gc:Nat):EmC gc:=eachM_of (copyMember_any gc)
end Go.Proofs.YtpfecpcgdfbekaaGreatDoor
namespace Go.Proofs.YtpfecpcgdfbekaaGreatDoor
open Go.RowKit
set_option maxRecDepth 100000 in
set_option maxHeartbeats 3200000 in
theorem constant_of {gc n:Nat} (hE:EcC gc n):CnC gc (n+1):=by
 intro w x c hcp hrc hok
 obtain ⟨xk,xn,xd,s,xl⟩:=x
 obtain ⟨l,rfl,hl⟩:=RC.of hrc
 obtain ⟨A,q,_,rfl,-,-,hqm,-,-⟩:=hl.sl conA_size
 obtain ⟨hb1,hb2,hb3⟩:=conB_of hok
 dsimp only at hb1
 have hl':RepL conA 5 51 (RC n) w (Ltg gc) (.slice A l.length q) l:=hl
 have HL:=Lib.hid hl'
 have HB3:=Lib.hid hb3
 have HB2:=Lib.hid hb2
 have HE:=Lib.hid hE
 have HCP:=Lib.hid hcp
 obtain ⟨L,hL⟩:∃ L,l.length=L:=⟨_,rfl⟩
 have HLE:=Lib.hid hL
 rw [hL]
 obtain ⟨E,hE2⟩:∃ E:Nat,s.length+L=E:=⟨_,rfl⟩
 have hEI:(s.length:Int)+(L:Int)=(E:Int):=by omega
 have hE9:(E:Int)≤9000:=by omega
 have hw1:IntKind.i64.wrap (E:Int)=(E:Int):=by rw [IntKind.wrap_i64];omega
 have hsl:(s.length:Int)≤8000:=by omega
 have HSL:Hid (s.length≤140737488355328):=by unfold Hid;omega
 obtain ⟨gx,hgx⟩:∃ g,w.heap.size=g:=⟨_,rfl⟩
 obtain ⟨gr,hgr⟩:∃ g,gx+1=g:=⟨_,rfl⟩
 have hgc:gc<gx:=by rw [← hgx];exact hcp.lt
 obtain ⟨w1,hw⟩:∃ w1,(w.alloc (.cells #[.int .i64 (xk:Int),.int .i64 xn,.int .u64 (xd:Int),.string ⟨s.toArray⟩,.slice A L q] 51)).alloc (.cells #[.int .i64 0,.int .i64 0,.int .u64 0,.string ⟨#[]⟩,.slice none 0 0] 51)=w1:=⟨_,rfl⟩
 have HBX:Hid (Blk w1 gx gx #[.int .i64 (xk:Int),.int .i64 xn,.int .u64 (xd:Int),.string ⟨s.toArray⟩,.slice A L q] 51):=by
  unfold Hid;rw [← hw,← hgx];exact (Blk.new w _ _).alloc _
 have HBR:Hid (Blk w1 gx gr #[.int .i64 0,.int .i64 0,.int .u64 0,.string ⟨#[]⟩,.slice none 0 0] 51):=by
  unfold Hid;rw [← hw,← hgr,← hgx,show w.heap.size+1=(w.alloc (.cells #[.int .i64 (xk:Int),.int .i64 xn,.int .u64 (xd:Int),.string ⟨s.toArray⟩,.slice A L q] 51)).heap.size from by simp]
  exact (Blk.new (w.alloc (.cells #[.int .i64 (xk:Int),.int .i64 xn,.int .u64 (xd:Int),.string ⟨s.toArray⟩,.slice A L q] 51)) _ _).less (by simp)
 have HN1:Hid (Nx w w1):=by unfold Hid;rw [← hw];exact Nx.al (nx0 w _) _
 have HGX:=Lib.hid hgx
 have HGC:=Lib.hid hgc
 have HGR:Hid (gx<gr):=by unfold Hid;omega
 show Calls _ _ #[.pointer (some ⟨gc,0,none⟩),.agg #[.int .i64 (xk:Int),.int .i64 xn,.int .u64 (xd:Int),.string ⟨s.toArray⟩,.slice A L q]] _ _
 clear hcp hrc hok hl hl' hb1 hb2 hb3 hE hE2 hqm hL
 go_enter Tryz.func130,Tryz.ntmps130
 go_upto_region 1 with (fail)
 try rw [hw]
 clear hw hgx hgr
 have HCP1:Hid (Cp gc w1):=HCP.out.nx HN1.out
 obtain ⟨N,hN,hbc⟩:=HCP1.out
 have HBC:=Lib.hid hbc
 have x0:w1.cell? ⟨gx,0,none⟩=some (.int .i64 (xk:Int)):=HBX.out.cell 0
 have x1:w1.cell? ⟨gx,1,none⟩=some (.int .i64 xn):=HBX.out.cell 1
 have x2:w1.cell? ⟨gx,2,none⟩=some (.int .u64 (xd:Int)):=HBX.out.cell 2
 have x3:w1.cell? ⟨gx,3,none⟩=some (.string ⟨s.toArray⟩):=HBX.out.cell 3
 have x4:w1.cell? ⟨gx,4,none⟩=some (.slice A L q):=HBX.out.cell 4
 have l0:w1.cell? ⟨gc,0,none⟩=some (.int .i64 (N:Int)):=hbc.cell 0
 have fx3:=HBX.out.free 3
 have fx4:=HBX.out.free 4
 have fc0:=hbc.free 0
 have hne1:gc≠gx:=by omega
 have hne2:gc≠gr:=by have:=HGR.out;omega
 have hne3:gx≠gr:=by have:=HGR.out;omega
 have y0:w1.cell? ⟨gr,0,none⟩=some (.int .i64 0):=HBR.out.cell 0
 have y1:w1.cell? ⟨gr,1,none⟩=some (.int .i64 0):=HBR.out.cell 1
 have y2:w1.cell? ⟨gr,2,none⟩=some (.int .u64 0):=HBR.out.cell 2
 have y3:w1.cell? ⟨gr,3,none⟩=some (.string ⟨#[]⟩):=HBR.out.cell 3
 have y4:w1.cell? ⟨gr,4,none⟩=some (.slice none 0 0):=HBR.out.cell 4
 have r0:=HBR.out.free 0
 have r1:=HBR.out.free 1
 have r2:=HBR.out.free 2
 have r3:=HBR.out.free 3
 have r4:=HBR.out.free 4
 clear hbc
 by_cases hgt:(N:Int)<(E:Int)
 ·have b1:decide ((N:Int)<(E:Int))=true:=decide_eq_true hgt
  go_wp2_with fail
  have hb1:=(((((HBR.out.other (k:=gx) (by omega) 3 (.string ⟨#[]⟩)).other (k:=gx) (by omega) 4 (.slice none 0 0)).put 0 (.int .i64 (xk:Int))).put 1 (.int .i64 xn)).put 2 (.int .u64 (xd:Int)))
  have hb2:=(hb1.put 3 (.string ⟨#[]⟩)).put 4 (.slice none 0 0)
  refine bodyPost_ret (results_cell_row rfl _ _ gr _ _ _ _ rfl hb2.2 Tryz.underlying51 rfl (by kernel_rfl)) rfl ?_
  have hxw:w.heap.size≤gx:=by rw [HGX.out];exact Nat.le_refl _
  have hrw:w.heap.size≤gr:=by have:=HGR.out;omega
  refine ⟨[],.slice none 0 0,rfl,⟨_,_,_,rfl⟩,?_,N,hN,?_⟩
  ·exact ((((((Oth.nx HN1.out).put hxw 3 _).put hxw 4 _).put hrw 0 _).put hrw 1 _).put hrw 2 _).put hrw 3 _ |>.put hrw 4 _
  ·exact (((((((HBC.out.other (Ne.symm hne1) 3 _).other (Ne.symm hne1) 4 _).other (Ne.symm hne2) 0 _).other (Ne.symm hne2) 1 _).other (Ne.symm hne2) 2 _).other (Ne.symm hne2) 3 _).other (Ne.symm hne2) 4 _)
 ·have b1:decide ((N:Int)<(E:Int))=false:=decide_eq_false hgt
  obtain ⟨F,hF⟩:∃ F:Nat,F+E=N:=⟨N - E,by omega⟩
  have hFI:(N:Int) - (E:Int)=(F:Int):=by omega
  have hF9:F≤64000:=by omega
  have hw2:IntKind.i64.wrap (F:Int)=(F:Int):=by rw [IntKind.wrap_i64];omega
  have HF9:=Lib.hid hF9
  clear hF hN
  go_wp2_with fail
  have hb2:Blk (w1.setCell ⟨gc,0,none⟩ (.int .i64 (F:Int))) gc gc #[.int .i64 (F:Int)] 190:=HBC.out.put 0 _
  have hx2:Blk (w1.setCell ⟨gc,0,none⟩ (.int .i64 (F:Int))) gx gx #[.int .i64 (xk:Int),.int .i64 xn,.int .u64 (xd:Int),.string ⟨s.toArray⟩,.slice A L q] 51:=HBX.out.other hne1 0 _
  have hr2:Blk (w1.setCell ⟨gc,0,none⟩ (.int .i64 (F:Int))) gx gr #[.int .i64 0,.int .i64 0,.int .u64 0,.string ⟨#[]⟩,.slice none 0 0] 51:=HBR.out.other hne2 0 _
  have ho2:Oth gc w (w1.setCell ⟨gc,0,none⟩ (.int .i64 (F:Int))):=(Oth.nx HN1.out).own
  clear x0 x1 x2 x3 x4 l0 fx3 fx4 fc0 y0 y1 y2 y3 y4 r0 r1 r2 r3 r4
  generalize World.setCell w1 _ _=w2 at *
  refine (clone_any w2 _ s (Tx.of _) HSL.out).mono ?_;rintro e w3 ⟨rfl,hn3⟩
  have hb3:=hb2.below hn3
  have hx3:=hx2.below hn3
  have hr3:=hr2.below hn3
  have ho3:=ho2.trans (Oth.nx hn3)
  clear hb2 hx2 hr2 ho2 hn3
  have x3:w3.cell? ⟨gx,3,none⟩=some (.string ⟨s.toArray⟩):=hx3.cell 3
  have x4:w3.cell? ⟨gx,4,none⟩=some (.slice A L q):=hx3.cell 4
  have f3:=hx3.free 3
  have hb4:Blk (w3.setCell ⟨gx,3,none⟩ (.string ⟨s.toArray⟩)) gc gc #[.int .i64 (F:Int)] 190:=hb3.other (Ne.symm hne1) 3 _
  have hx4:Blk (w3.setCell ⟨gx,3,none⟩ (.string ⟨s.toArray⟩)) gx gx #[.int .i64 (xk:Int),.int .i64 xn,.int .u64 (xd:Int),.string ⟨s.toArray⟩,.slice A L q] 51:=hx3.put 3 _
  have hr4:Blk (w3.setCell ⟨gx,3,none⟩ (.string ⟨s.toArray⟩)) gx gr #[.int .i64 0,.int .i64 0,.int .u64 0,.string ⟨#[]⟩,.slice none 0 0] 51:=hr3.other hne3 3 _
  have ho4:Oth gc w (w3.setCell ⟨gx,3,none⟩ (.string ⟨s.toArray⟩)):=ho3.put (by rw [HGX.out];exact Nat.le_refl _) 3 _
  have HB4:=Lib.hid hb4
  have HX4:=Lib.hid hx4
  have HR4:=Lib.hid hr4
  have HO4:=Lib.hid ho4
  have HCA:Hid (Calls Tryz.prog 146 #[.slice A L q,.func (.func 130) #[.pointer (some ⟨gc,0,none⟩)] #[]] (w3.setCell ⟨gx,3,none⟩ (.string ⟨s.toArray⟩)) fun e w'=>∃ v',e = .returned v'∧IsSl v'∧Oth gc (w3.setCell ⟨gx,3,none⟩ (.string ⟨s.toArray⟩)) w'∧Cp gc w'):=by
   have h1:RepL conA 5 51 (RC n) (w3.setCell ⟨gx,3,none⟩ (.string ⟨s.toArray⟩)) (Ltg gc) (.slice A L q) l:=by
    have:=RepL.mv (RC.lasts n) (mvO ho4) HL.out
    rw [HLE.out] at this
    exact this
   have:=HE.out _ _ l ⟨F,HF9.out,hb4⟩ h1 HB3.out HB2.out
   exact this
  clear hb3 hx3 hr3 ho3 hb4 hx4 hr4 ho4
  go_wp2_with fail
  generalize World.setCell w3 _ _=w4 at *
  refine HCA.out.mono ?_;rintro e w5 ⟨_,rfl,⟨A5,n5,c5,rfl⟩,ho5,hcp5⟩
  have hx5:=ho5.blk HX4.out (Ne.symm hne1)
  have hr5:=ho5.blk HR4.out (Ne.symm hne2)
  have HX5:=Lib.hid hx5
  have HR5:=Lib.hid hr5
  have HCP5:=Lib.hid hcp5
  have HO5:=Lib.hid (HO4.out.trans ho5)
  have x0:w5.cell? ⟨gx,0,none⟩=some (.int .i64 (xk:Int)):=hx5.cell 0
  have x1:w5.cell? ⟨gx,1,none⟩=some (.int .i64 xn):=hx5.cell 1
  have x2:w5.cell? ⟨gx,2,none⟩=some (.int .u64 (xd:Int)):=hx5.cell 2
  have x3:w5.cell? ⟨gx,3,none⟩=some (.string ⟨s.toArray⟩):=hx5.cell 3
  have x4:w5.cell? ⟨gx,4,none⟩=some (.slice A L q):=hx5.cell 4
  have fx4:=hx5.free 4
  have y0:w5.cell? ⟨gr,0,none⟩=some (.int .i64 0):=hr5.cell 0
  have y1:w5.cell? ⟨gr,1,none⟩=some (.int .i64 0):=hr5.cell 1
  have y2:w5.cell? ⟨gr,2,none⟩=some (.int .u64 0):=hr5.cell 2
  have y3:w5.cell? ⟨gr,3,none⟩=some (.string ⟨#[]⟩):=hr5.cell 3
  have y4:w5.cell? ⟨gr,4,none⟩=some (.slice none 0 0):=hr5.cell 4
  have r0:=hr5.free 0
  have r1:=hr5.free 1
  have r2:=hr5.free 2
  have r3:=hr5.free 3
  have r4:=hr5.free 4
  clear hx5 hr5 ho5 hcp5 HCA
  go_wp2_with fail
  have hb2:=(((((HR5.out.other (k:=gx) hne3 4 (.slice A5 n5 c5)).put 0 (.int .i64 (xk:Int))).put 1 (.int .i64 xn)).put 2 (.int .u64 (xd:Int))).put 3 (.string ⟨s.toArray⟩)).put 4 (.slice A5 n5 c5)
  refine bodyPost_ret (results_cell_row rfl _ _ gr _ _ _ _ rfl hb2.2 Tryz.underlying51 rfl (by kernel_rfl)) rfl ?_
  have hxw:w.heap.size≤gx:=by rw [HGX.out];exact Nat.le_refl _
  have hrw:w.heap.size≤gr:=by have:=HGR.out;omega
  obtain ⟨N5,hN5,hbc5⟩:=HCP5.out
  refine ⟨s,.slice A5 n5 c5,rfl,⟨_,_,_,rfl⟩,?_,N5,hN5,?_⟩
  ·exact (((((HO5.out.put hxw 4 _).put hrw 0 _).put hrw 1 _).put hrw 2 _).put hrw 3 _).put hrw 4 _
  ·exact (((((hbc5.other (Ne.symm hne1) 4 _).other (Ne.symm hne2) 0 _).other (Ne.symm hne2) 1 _).other (Ne.symm hne2) 2 _).other (Ne.symm hne2) 3 _).other (Ne.symm hne2) 4 _
theorem constant_any {gc:Nat}:∀ n,CnC gc n
 | 0=>fun _ _ _ _ h _=>h.elim
 | n+1=>constant_of (eachC_of (constant_any n))
end Go.Proofs.YtpfecpcgdfbekaaGreatDoor
namespace Go.Proofs.YtpfecpcgdfbekaaGreatDoor
open Go.RowKit
def wputs (w:World) (g:Nat):Nat→List Value→World
 | _,[]=>w
 | i,v :: r=>wputs (w.setCell ⟨g,i,none⟩ v) g (i+1) r
def putC (cs:Array Value):Nat→List Value→Array Value
 | _,[]=>cs
 | i,v :: r=>putC (cs.setIfInBounds i v) (i+1) r
theorem putC_get:∀ (vs:List Value) (cs:Array Value) (i j:Nat),(putC cs i vs)[j]? = if i≤j∧j<i+vs.length∧j<cs.size then vs[j - i]? else cs[j]?
 | [],cs,i,j=>by
  rw [if_neg (by simp;omega)];rfl
 | v :: r,cs,i,j=>by
  show (putC (cs.setIfInBounds i v) (i+1) r)[j]? = _
  rw [putC_get r _ (i+1) j,Array.size_setIfInBounds]
  by_cases h1:i+1≤j∧j<i+1+r.length∧j<cs.size
  ·rw [if_pos h1,if_pos (by simp only [List.length_cons];omega),show j - i=(j - (i+1))+1 by omega,List.getElem?_cons_succ]
  ·rw [if_neg h1,Array.getElem?_setIfInBounds]
   by_cases h2:i=j
   ·subst h2
    by_cases h3:i<cs.size
    ·rw [if_pos rfl,if_pos h3,if_pos ⟨Nat.le_refl _,by rw [List.length_cons];omega,h3⟩,Nat.sub_self];rfl
    ·rw [if_pos rfl,if_neg h3,if_neg (fun h=>h3 h.2.2),Array.getElem?_eq_none (by omega)]
   ·rw [if_neg h2,if_neg (by simp only [List.length_cons];omega)]
theorem putC_all {vs:List Value} {cs:Array Value} (h:vs.length=cs.size):putC cs 0 vs=vs.toArray:=by
 have hz:(putC cs 0 vs).size=cs.size:=by
  have:∀ (vs:List Value) (cs:Array Value) (i:Nat),(putC cs i vs).size=cs.size:=fun vs=>by
   induction vs with
   | nil=>exact fun _ _=>rfl
   | cons v r ih=>intro cs i;show (putC _ _ r).size=_;rw [ih,Array.size_setIfInBounds]
  exact this vs cs 0
 apply Array.ext_getElem?
 intro j
 rw [putC_get]
 by_cases hj:j<cs.size
 ·rw [if_pos ⟨Nat.zero_le _,by omega,hj⟩];simp
 ·rw [if_neg (by omega),Array.getElem?_eq_none (by omega),Array.getElem?_eq_none (by simp;omega)]
section
variable {w w':World} {B g k b:Nat} {cs:Array Value} {T:TypeId}
theorem Blk.puts:∀ (vs:List Value) {w:World} {cs:Array Value} (i:Nat),Blk w B g cs T→Blk (wputs w g i vs) B g (putC cs i vs) T
 | [],_,_,_,h=>h
 | v :: r,_,_,i,h=>Blk.puts r (i+1) (h.put i v)
theorem Blk.putAll (h:Blk w B g cs T) (vs:List Value) (hl:vs.length=cs.size):Blk (wputs w g 0 vs) B g vs.toArray T:=by
 have:=h.puts vs 0
 rw [putC_all hl] at this
 exact this
theorem Blk.apart (hk:k≠g):∀ (vs:List Value) {w:World} (i:Nat),Blk w B g cs T→Blk (wputs w k i vs) B g cs T
 | [],_,_,h=>h
 | v :: r,_,i,h=>Blk.apart hk r (i+1) (h.other hk i v)
theorem Oth.puts (hg:w.heap.size≤g):∀ (vs:List Value) {w':World} (i:Nat),Oth b w w'→Oth b w (wputs w' g i vs)
 | [],_,_,h=>h
 | v :: r,_,i,h=>Oth.puts hg r (i+1) (h.put hg i v)
theorem Nx.puts (hg:w.heap.size≤g):∀ (vs:List Value) {w':World} (i:Nat),Nx w w'→Nx w (wputs w' g i vs)
 | [],_,_,h=>h
 | v :: r,_,i,h=>Nx.puts hg r (i+1) (h.put' hg i v)
end
end Go.Proofs.YtpfecpcgdfbekaaGreatDoor
