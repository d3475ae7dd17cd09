/- The contract of the document's descent. -/
import Derived.Test.YtpfecpcgdfbekaaGreatDoorG23
import Derived.Test.YtpfecpcgdfbekaaGreatDoorG24
import Derived.Test.YtpfecpcgdfbekaaGreatDoorG21
import Derived.Test.YtpfecpcgdfbekaaGreatDoorG20
import Derived.Deep.DeepCutAuto
import Derived.Deep.CutBlock
set_option linter.unusedVariables false
set_option linter.unusedSimpArgs false
set_option linter.unnecessarySimpa false
namespace Go.Proofs.YtpfecpcgdfbekaaGreatDoor
open Go.RowKit
theorem txtW_len {xs:List (List UInt8×List UInt8)} (h:∀ x ∈ xs,x.2.length≤140737488355328) (k:List UInt8):((txtW xs k).getD []).length≤140737488355328:=by
 induction xs with
 | nil=>exact Nat.zero_le _
 | cons x r ih =>
  unfold txtW
  split
  ·exact h x (by simp)
  ·exact ih fun y hy=>h y (by simp [hy])
theorem OwnN.nil0 (w:World) (B:Nat) (hB:B≤w.heap.size):OwnN (w.alloc (.cells #[] 9)) B (.slice (some ⟨w.heap.size,0,none⟩) 0 0) [] :=
 ⟨rfl,.inr ⟨w.heap.size,0,#[],rfl,hB,heap_alloc_new w _,Nat.le_refl _,by decide,rfl,rfl⟩⟩
def tb (s:List UInt8):ByteArray:=⟨s.toArray⟩
theorem OpR.rd {B g:Nat} {vn vf:Value} {w:World} {vo:Value} {l:List (List UInt8)} (h:OpR B g vn vf w vo l):∃ A c,vo = .slice A l.length c∧l.length≤c∧c≤maxLen∧RdS strC 1 w A (l.map tb)∧(0<l.length→∃ k,A=some ⟨k,0,none⟩∧∀ i (h:i<l.length),w.cell? ⟨k,i,none⟩=some (bt l[i])):=by
 obtain ⟨A,c,h1,h2,h3,h4⟩:=h
 refine ⟨A,c,h1,h2,h3,fun h0=>?_,fun h0=>?_⟩
 ·rw [List.length_map] at h0
  obtain ⟨k,a1,a2,a3,a4,a5,a6,a7⟩:=h4 h0
  refine ⟨k,a1,a3,fun i hi j hj=>?_⟩
  obtain rfl:j=0:=by omega
  rw [List.length_map] at hi
  rw [show i * 1+0=i by omega,a7 i hi,List.getElem_map]
  rfl
 ·obtain ⟨k,a1,a2,a3,a4,a5,a6,a7⟩:=h4 h0
  exact ⟨k,a1,a7⟩
theorem OpR.of {B0 B g:Nat} {vn vf:Value} {w':World} {v:Value} {l:List (List UInt8)} (h:OwnN w' B v (l.map tb)) (hB:B0≤B) (hg:g<B) (hn:∀ k,vn.ownBlock=some k→k<B) (hf:∀ k,vf.ownBlock=some k→k<B):OpR B0 g vn vf w' v l:=by
 obtain ⟨A,c,h1,h2,h3,h4⟩:=OwnS.sl strC_size h
 have ho:=h.own
 rw [List.length_map] at h1 h2
 subst h1
 refine ⟨A,c,rfl,h2,h3,fun h0=>?_⟩
 obtain ⟨k,rfl,a2,a3⟩:=h4 (by rw [List.length_map];exact h0)
 have hk:B≤k:=(ho k (by rfl)).1
 refine ⟨k,rfl,by omega,a2,by omega,fun e=>by have:=hn k e;omega,fun e=>by have:=hf k e;omega,fun i hi=>?_⟩
 have:=a3 i (by rw [List.length_map];exact hi) 0 (by decide)
 rw [show i * 1+0=i by omega,List.getElem_map] at this
 exact this
def DnC (rt:List UInt8) (A:Option Addr) (n c:Nat) (xs:List (List UInt8×List UInt8)) (w0:World) (g k:Nat):Prop :=
 ∀ (w:World) (s:LdW) (vo vn vf:Value) (opn:List (List UInt8)) (nm:List UInt8),DlS rt (.slice A n c) w0 g s vo vn vf w→OpR w0.heap.size g vn vf w vo opn→opn.Nodup→(∀ x ∈ opn,(txtW xs x).isSome=true)→(txtW xs nm).isSome=true→opn.contains nm=false→opn.length+k=n →
  ∀ m,Sw s m→m+6 ^ k≤90000 →
  Calls Tryz.prog 18 #[.pointer (some ⟨g,0,none⟩),.string ⟨nm.toArray⟩] w fun e w'=>e = .returned (.tuple #[])∧∃ vo' vn' vf',DlS rt (.slice A n c) w0 g (downW xs k opn nm s) vo' vn' vf' w'∧OpR w0.heap.size g vn' vf' w' vo' opn∧DlF g vn vf w vn' vf' w'
section
variable {rt:List UInt8} {A:Option Addr} {n c:Nat} {xs:List (List UInt8×List UInt8)} {w0:World} {g:Nat}
set_option maxRecDepth 100000 in
set_option maxHeartbeats 6400000 in
theorem down_step {k:Nat} (hV:DnC rt A n c xs w0 g k) (hn0:xs.length=n) (hn5:n≤5) (hr:RdW w0 A xs) (hok:∀ x ∈ xs,x.2.length≤140737488355328) (hdoc:∀ nm,DocOk ((txtW xs nm).getD [])):DnC rt A n c xs w0 g (k+1):=by
  intro w s vo vn vf opn nm h0 hop hnd hall hnm hno hlen m hz h6
  have H:=Lib.hid h0
  have HOP:=Lib.hid hop
  have HV:=Lib.hid hV
  have HND:=Lib.hid hnd
  have HALL:=Lib.hid hall
  have HNM:=Lib.hid hnm
  have HNO:=Lib.hid hno
  have HLEN:=Lib.hid hlen
  have HZ:=Lib.hid hz
  have H6:=Lib.hid h6
  have HN0:=Lib.hid hn0
  have HN5:=Lib.hid hn5
  have HR:=Lib.hid hr
  obtain ⟨T,hT⟩:∃ T,Hid ((txtW xs nm).getD []=T):=⟨_,rfl⟩
  obtain ⟨⟨F,pe,pa⟩,hP⟩:∃ V,Hid (parseF T=V):=⟨_,rfl⟩
  have HTL:Hid (T.length≤140737488355328):=by have:=txtW_len hok nm;rw [hT.out] at this;exact this
  have HX:Hid (downW xs (k+1) opn nm s=if pe≠0 then failW pe nm pa s else ⟨(incsW (downW xs k (opn++[nm])) xs (opn++[nm]) nm F.incs s).names++[nm],(incsW (downW xs k (opn++[nm])) xs (opn++[nm]) nm F.incs s).files++[F],(incsW (downW xs k (opn++[nm])) xs (opn++[nm]) nm F.incs s).e,(incsW (downW xs k (opn++[nm])) xs (opn++[nm]) nm F.incs s).file,(incsW (downW xs k (opn++[nm])) xs (opn++[nm]) nm F.incs s).at_⟩):=by
    unfold Hid
    show (if (parseF ((txtW xs nm).getD [])).2.1≠0 then _ else _)=_
    rw [hT.out,hP.out]
  have HDT:Hid (Calls Tryz.prog 17 #[.pointer (some ⟨g,0,none⟩),.string ⟨nm.toArray⟩] w fun e w'=>e = .returned (.tuple #[.string ⟨T.toArray⟩,.bool true])∧Nx w w'):=by
    have:=dtext_any A n c xs hn0 (by omega) h0 hr nm
    rw [hT.out,hnm] at this
    exact this
  clear h0 hop hV hnd hall hnm hno hlen hz h6 hn0 hn5 hr hok
  have HDOC:=Lib.hid hdoc
  clear hdoc
  go_enter Tryz.func18,Tryz.ntmps18
  go_wp2_with fail
  refine HDT.out.mono ?_;rintro e w1 ⟨rfl,hn1⟩
  have HN1:=Lib.hid hn1
  have HPC:Hid (Calls Tryz.prog 33 #[.string ⟨T.toArray⟩] w1 fun e w'=>∃ x,e = .returned (.tuple #[.agg (filA x),.int .i64 (pe:Int),.int .i64 (pa:Int)])∧RFile w' (Fm w1.heap.size) x F∧Nx w1 w'):=by
    have:=HDOC.out nm
    rw [hT.out] at this
    have:=this ⟨T.toArray⟩ (Tx.of _) w1
    rw [hP.out] at this
    exact this
  clear hn1 HDOC
  go_wp2_with fail
  refine HPC.out.mono ?_;rintro e w2 ⟨⟨xi,xs',xd⟩,rfl,hrf,hn2⟩
  obtain ⟨iA,ic,xl,rfl,-,-,-,hrd,hall⟩:=hrf.1.sl strA_size
  obtain ⟨sA,sc,-,rfl,-,-,-,-,-⟩:=hrf.2.1.sl spcA_size
  obtain ⟨dA,dc,-,rfl,-,-,-,-,-⟩:=hrf.2.2.sl dfnA_size
  rw [show filA ⟨.slice iA F.incs.length ic,.slice sA F.spaces.length sc,.slice dA F.defs.length dc⟩=#[.slice iA F.incs.length ic,.slice sA F.spaces.length sc,.slice dA F.defs.length dc] from rfl]
  obtain ⟨g7,hg7⟩:∃ g,w2.heap.size=g:=⟨_,rfl⟩
  have HHR:=Lib.hid hrf
  have HRD:=Lib.hid hrd
  obtain rfl:xl=F.incs:=List.ext_getElem hall.len (fun i h1 h2=>hall.at_ i h1 h2)
  have HN2:=Lib.hid (HN1.out.trans hn2)
  have HN2':=Lib.hid hn2
  have HS2:=Lib.hid (H.out.next HN2.out)
  have hB7:=Blk.new w2 #[.slice iA F.incs.length ic,.slice sA F.spaces.length sc,.slice dA F.defs.length dc] 74
  rw [hg7] at hB7
  have HB7:=Lib.hid hB7
  have HN3:Hid (Nx w2 (w2.alloc (.cells #[.slice iA F.incs.length ic,.slice sA F.spaces.length sc,.slice dA F.defs.length dc] 74))):=nx0 _ _
  have HG7:Hid (w2.heap.size=g7):=hg7
  clear hrf hrd hall hn2 hB7
  go_upto_region 2 with (fail)
  generalize World.alloc w2 _=w3 at *
  clear hg7
  have HF3:Hid (DlF g vn vf w vn vf w3):=DlF.nx (HN2.out.trans HN3.out) _ _
  have HS3:=Lib.hid (HS2.out.next HN3.out)
  have HO3:=Lib.hid (HOP.out.fr HF3.out)
  have HB3:=HB7
  by_cases hpe:pe=0
  · have b0:((pe:Int) != 0)=false:=by rw [hpe];rfl
    have HX2:=HX.out
    rw [if_neg (by omega)] at HX2
    have HX3:=Lib.hid HX2
    obtain ⟨oA,oc,rfl,ho1,ho2,hro,-⟩:=HO3.out.rd
    have hoE:opn.length=(opn.map tb).length:=(List.length_map _).symm
    obtain ⟨c0,c1,c2,c3,c4,c5,c6,c7⟩:=HS3.out.cs
    have HW3:Hid (w3.heap.size≤w3.heap.size):=Nat.le_refl _
    have HO1:=Lib.hid (OwnN.nil0 w3 w3.heap.size HW3.out)
    have HRO:=Lib.hid (RdS.nx hro (nx0 w3 (.cells #[] 9)))
    have HNE:Hid ((opn.map tb).length=0→(Value.slice (some ⟨w3.heap.size,0,none⟩) 0 0)≠.slice none 0 0):=fun _ h=>by cases h
    have H63:Hid ((([]:List ByteArray).length:Int)+((opn.map tb).length:Int)≤100000):=by
      unfold Hid
      have:=HLEN.out
      have:=HN5.out
      rw [List.length_map]
      simp
      omega
    have HBZ:Hid (w3.heap.size≤(w3.alloc (.cells #[] 9)).heap.size):=(nx0 w3 _).size
    have H64:Hid (((opn.map tb).length:Int)≤100000):=by have:=H63.out;unfold Hid;simp at this ⊢;omega
    have HEV:Hid (Value.slice oA opn.length oc = .slice oA (opn.map tb).length oc):=by unfold Hid;rw [hoE]
    clear hoE
    have HS4:=Lib.hid (HS3.out.next (nx0 w3 (.cells #[] 9)))
    have d4:(w3.alloc (.cells #[] 9)).cell? ⟨g,4,none⟩=some (.slice oA opn.length oc):=HS4.out.cs.2.2.2.2.1
    have HG4:Hid (g<w3.heap.size):=HS3.out.gl
    have hg4:=HG4.out
    clear hpe HX2 hro ho1 ho2 HX c0 c1 c2 c3 c5 c6 c7 HDT HPC
    go_upto_block 0 with (first
      | (refine wpList_appNs _ (o:=⟨some 38,_,_,_,_,_⟩) rfl _ _ rfl w3.heap.size (.slice (some ⟨w3.heap.size,0,none⟩) 0 0) [] (opn.map tb) rfl HO1.out oA oc HEV.out HRO.out HNE.out H63.out HBZ.out ?_
         intro v5 w5 hown5 hgb5
         rw [List.nil_append] at hown5
         have HOW5:=Lib.hid hown5
         have HN5':Hid (Nx w3 w5):=Nx.grownBy (nx0 w3 (.cells #[] 9)) hgb5 (fun k e=>by simp [Value.ownBlock] at e;subst e;exact HW3.out)
         have HO5:Hid (OwnN (w5.alloc (.cells #[.string ⟨nm.toArray⟩] 9)) w3.heap.size v5 (opn.map tb)):=HOW5.out.nx (nx0 _ _)
         have HC5:Hid ((w5.alloc (.cells #[.string ⟨nm.toArray⟩] 9)).cell? ⟨w5.heap.size,0,none⟩=some (.string ⟨nm.toArray⟩)):=(Blk.new w5 #[.string ⟨nm.toArray⟩] 9).cell 0
         have HBZ5:Hid (w3.heap.size≤(w5.alloc (.cells #[.string ⟨nm.toArray⟩] 9)).heap.size):=Nat.le_trans HN5'.out.size (nx0 w5 _).size
         clear hown5 hgb5 d4 c4)
      | (refine wpList_appN _ (o:=⟨some 41,_,_,_,_,_⟩) rfl _ _ rfl w3.heap.size _ (opn.map tb) ⟨nm.toArray⟩ rfl HO5.out _ rfl HC5.out H64.out HBZ5.out ?_
         intro v6 w6 hown6 hfr6
         obtain ⟨A6,c6,hv6,-,-,-⟩:=OwnS.sl strC_size hown6
         obtain rfl:v6 = .slice A6 (opn.length+1) c6:=by rw [hv6,List.length_append,List.length_map];rfl
         clear hv6
         have HN6:Hid (Nx w3 w6):=((hfr6 w3.heap.size).mono (nx0 w5 (.cells #[.string ⟨nm.toArray⟩] 9))).to HN5'.out (Nat.le_refl _) (fun k e=>(HOW5.out.own k e).1)
         have HOW6:Hid (OwnN w6 w3.heap.size (.slice A6 (opn.length+1) c6) ((opn++[nm]).map tb)):=(by rw [List.map_append];exact hown6)
         clear hown6 hfr6
         have HS6:=Lib.hid (HS3.out.next HN6.out)
         have d6:=HS6.out.cs.2.2.2.2.1
         have f6:=HS6.out.fs 4))
    have HS7:=Lib.hid (HS6.out.put (s':=s) 4 (.slice A6 (opn.length+1) c6) ⟨rfl,rfl⟩ rfl)
    have HO6:Hid (OpR w0.heap.size g vn vf w6 (.slice A6 (opn.length+1) c6) (opn++[nm])) :=
      OpR.of HOW6.out HS3.out.nx.size HG4.out (fun k e=>(HS3.out.onb k e).2) (fun k e=>(HS3.out.ofb k e).2)
    have HF67:Hid (DlF g vn vf w3 vn vf (w6.setCell ⟨g,4,none⟩ (.slice A6 (opn.length+1) c6))):=(DlF.nx HN6.out _ _).trans (DlF.put _ _ _ _ _ _)
    have HO7:=Lib.hid (HO6.out.fr (DlF.put w6 g 4 (.slice A6 (opn.length+1) c6) vn vf))
    clear d6 f6 hg4
    generalize World.setCell w6 _ _=w7 at *
    obtain ⟨opn2,hop2⟩:∃ o,Hid (opn++[nm]=o):=⟨_,rfl⟩
    rw [hop2.out] at HO7 HX3
    obtain ⟨S,hS⟩:∃ S,Hid (incsW (downW xs k opn2) xs opn2 nm F.incs s=S):=⟨_,rfl⟩
    rw [hS.out] at HX3
    have HND2:Hid opn2.Nodup:=by
      unfold Hid
      rw [← hop2.out,List.nodup_append]
      refine ⟨HND.out,by simp,fun a ha b hb=>?_⟩
      rw [List.mem_singleton.1 hb]
      rintro rfl
      have:=HNO.out
      rw [List.contains_iff_mem.2 ha] at this
      cases this
    have HAL2:Hid (∀ x ∈ opn2,(txtW xs x).isSome=true):=by
      intro x hx
      rw [← hop2.out] at hx
      rcases List.mem_append.1 hx with hx | hx
      · exact HALL.out x hx
      · rw [List.mem_singleton.1 hx];exact HNM.out
    have HLE2:Hid (opn2.length+k=n):=by have:=HLEN.out;unfold Hid;rw [← hop2.out];simp;omega
    have HI5:Hid (IncOk F.incs):=by have:=parse_inc T;rw [hP.out] at this;exact this
    have HSW0:Hid (Sw s (m+0 * 6 ^ k)):=HZ.out.mono (by omega)
    have HG7':Hid (g7≠g∧vn.ownBlock≠some g7∧vf.ownBlock≠some g7):=by
      have h1:=HG7.out
      have h2:=HS2.out.gl
      exact ⟨by omega,fun e=>by have:=(HS2.out.onb _ e).2;omega,fun e=>by have:=(HS2.out.ofb _ e).2;omega⟩
    clear HO1 HRO HNE H63 HBZ H64 HEV HW3 HO3 HOP HOW5 HOW6 HO5 HC5 HBZ5 HN5' HN6 HS6 HO6 HZ
    go_cut [9] (fun _ wx=>∃ vo' vn' vf',Hid (DlS rt (.slice A n c) w0 g S vo' vn' vf' wx)∧Hid (OpR w0.heap.size g vn' vf' wx vo' opn2)∧Hid (DlF g vn vf w3 vn' vf' wx)∧Hid (Sw S 89999))
    case first =>
      go_wp2_with fail
      go_loopw [9] (fun v wr=>∃ (i:Nat) (s':LdW) (vo' vn' vf':Value),v = .int .i64 (i:Int)∧i≤F.incs.length∧Hid (incsW (downW xs k opn2) xs opn2 nm (F.incs.drop i) s'=S)∧Hid (Sw s' (m+i * 6 ^ k))∧Hid (DlS rt (.slice A n c) w0 g s' vo' vn' vf' wr)∧Hid (OpR w0.heap.size g vn' vf' wr vo' opn2)∧Hid (DlF g vn vf w3 vn' vf' wr)) (fun v _=>(F.incs.length - intOf v).toNat)
      case atStart=>exact ⟨0,s,_,vn,vf,rfl,Nat.zero_le _,hS,HSW0,HS7,HO7,HF67⟩
      case round =>
        obtain ⟨i,s1,vo1,vn1,vf1,rfl,hi,HIN,HSW,HS,HO,HF⟩:=hrel
        have hiI:(i:Int)≤5:=by have:=HI5.out.1;omega
        have e7:wr.cell? ⟨g7,0,none⟩=some (.slice iA F.incs.length ic):=by
          rw [World.cell?_of_block (HF.out.block g7 HB3.out.lt HG7'.out.1 HG7'.out.2.1 HG7'.out.2.2)];exact HB3.out.cell 0
        have e5:=HS.out.cs.2.2.2.2.2.1
        have HSE:Hid (F.incs.length≤i∨s1.e≠0→s1=S∧Sw S 89999):=by
          intro h
          have hs:s1=S:=by
            rw [← HIN.out]
            rcases h with h | h
            · rw [List.drop_eq_nil_of_le h];rfl
            · exact (incsW_end h).symm
          refine ⟨hs,hs ▸ HSW.out.mono ?_⟩
          have h1:=H6.out
          have h2:=HI5.out.1
          have h3:i * 6 ^ k≤5 * 6 ^ k:=Nat.mul_le_mul_right _ (by omega)
          have h4:6 ^ (k+1)=6 * 6 ^ k:=by rw [Nat.pow_succ,Nat.mul_comm]
          have h5:0<6 ^ k:=Nat.pow_pos (by decide)
          omega
        by_cases hlt:i<F.incs.length
        · have q1:decide ((i:Int)<(F.incs.length:Int))=true:=decide_eq_true (by omega)
          have q2:(i:Int)<(F.incs.length:Int):=by omega
          by_cases he:s1.e=0
          · have b1:((s1.e:Int) == 0)=true:=by rw [he];rfl
            obtain ⟨g8,rfl,hg8,hc8⟩:=HRD.out (by omega)
            obtain ⟨y,hy⟩:∃ y,F.incs[i]=y:=⟨_,rfl⟩
            have e8:w2.cell? ⟨g8,i,none⟩=some (.string ⟨y.toArray⟩):=by
              have:=hc8 i hlt 0 (by decide)
              rw [hy,show i * 1+0=i by omega] at this
              exact this
            have hp8:=HHR.out.1.own_lt g8 rfl
            have hp9:w1.heap.size≤g8:=hp8.1
            have hw1:=HN1.out.size
            have hgw:=H.out.gl
            have e9:wr.cell? ⟨g8,i,none⟩=some (.string ⟨y.toArray⟩):=by
              rw [← e8]
              exact World.cell?_of_block ((HF.out.block g8 (Nat.lt_of_lt_of_le hp8.2 HN3.out.size) (by omega) (fun e=>by have:=(H.out.onb _ e).2;omega) (fun e=>by have:=(H.out.ofb _ e).2;omega)).trans (HN3.out.block g8 hp8.2))
            obtain ⟨T2,hT2⟩:∃ t,Hid ((txtW xs y).getD []=t):=⟨_,rfl⟩
            obtain ⟨B2,hB2⟩:∃ b,Hid ((txtW xs y).isSome=b):=⟨_,rfl⟩
            obtain ⟨B1,hB1⟩:∃ b,Hid (opn2.contains y=b):=⟨_,rfl⟩
            obtain ⟨B3,hB3⟩:∃ b,Hid (s1.names.contains y=b):=⟨_,rfl⟩
            obtain ⟨s2,hs2⟩:∃ t,Hid (incW (downW xs k opn2) xs opn2 nm y s1=t):=⟨_,rfl⟩
            have HIN2:Hid (incsW (downW xs k opn2) xs opn2 nm (F.incs.drop (i+1)) s2=S):=by unfold Hid;rw [← HIN.out,incsW_step i hlt he,hy,hs2.out]
            have HSW2:Hid (Sw s2 (m+(i+1) * 6 ^ k)):=by
              have:=HSW.out.inc (Sw.down xs k opn2) xs opn2 nm y
              rw [hs2.out] at this
              unfold Hid
              rw [Nat.succ_mul,← Nat.add_assoc];exact this
            have HST:Hid (s2=if B1=true then failW 9 nm 0 s1 else if B2=false then failW 15 nm 0 s1 else if B3=true then s1 else downW xs k opn2 y s1):=by
              have h1:((txtW xs y).isNone=true)=(B2=false):=by rw [← hB2.out];cases txtW xs y <;> simp
              unfold Hid;rw [← hs2.out];unfold incW;rw [hB1.out,hB3.out];simp only [h1]
            have HSB:Hid (m+i * 6 ^ k+6 ^ k≤90000):=by
              have h1:=H6.out
              have h2:=HI5.out.1
              have h3:(i+1) * 6 ^ k≤6 * 6 ^ k:=Nat.mul_le_mul_right _ (by omega)
              have h4:6 ^ (k+1)=6 * 6 ^ k:=by rw [Nat.pow_succ,Nat.mul_comm]
              have h5:(i+1) * 6 ^ k=i * 6 ^ k+6 ^ k:=Nat.succ_mul _ _
              unfold Hid;omega
            have HTX:Hid (Calls Tryz.prog 17 #[.pointer (some ⟨g,0,none⟩),.string ⟨y.toArray⟩] wr fun e w'=>e = .returned (.tuple #[.string ⟨T2.toArray⟩,.bool B2])∧Nx wr w'):=by
              have:=dtext_any A n c xs HN0.out (by have:=HN5.out;omega) HS.out HR.out y
              rw [hT2.out,hB2.out] at this
              exact this
            have HNL:Hid ((s1.names.length:Int)≤1000000):=by have h1:s1.names.length≤90000:=Nat.le_trans HSW.out.1 (Nat.le_trans (Nat.le_add_right _ _) HSB.out);unfold Hid;omega
            have HOL:Hid ((opn2.length:Int)≤1000000):=by have h1:=HLE2.out;have h2:=HN5.out;unfold Hid;omega
            have HLT:=Lib.hid hlt
            clear hc8 hy e8 hp8 hp9 hw1 hgw hg8 HSE he hlt
            go_wp2_with fail
            refine HTX.out.mono ?_;rintro e w8 ⟨rfl,hn8⟩
            have HS8:=Lib.hid (HS.out.next hn8)
            have HO8:=Lib.hid (HO.out.fr (DlF.nx hn8 vn1 vf1))
            have HF8:=Lib.hid (HF.out.trans (DlF.nx hn8 vn1 vf1))
            obtain ⟨oA1,oc1,rfl,-,-,-,hrd8⟩:=HO8.out.rd
            have e4:w8.cell? ⟨g,4,none⟩=some (.slice oA1 opn2.length oc1):=HS8.out.cs.2.2.2.2.1
            have HHA:Hid (Calls Tryz.prog 35 #[.slice oA1 opn2.length oc1,.string ⟨y.toArray⟩] w8 fun e w'=>e = .returned (.bool B1)∧Nx w8 w'):=dhas_any oA1 oc1 opn2 w8 hrd8 HOL.out y B1 hB1.out
            clear hn8 hrd8 HTX HS HO HF e5 e7 e9
            go_wp2_with fail
            refine HHA.out.mono ?_;rintro e w9 ⟨rfl,hn9⟩
            have HS9:=Lib.hid (HS8.out.next hn9)
            have HO9:=Lib.hid (HO8.out.fr (DlF.nx hn9 vn1 vf1))
            have HF9:=Lib.hid (HF8.out.trans (DlF.nx hn9 vn1 vf1))
            clear hn9 HHA e4 HS8 HO8 HF8
            cases B1 with
            | true =>
              have HE:Hid (failW 9 nm 0 s1=s2):=by unfold Hid;rw [HST.out,if_pos rfl]
              go_wp2_with fail
              refine (dlfail_any HS9.out 9 nm 0).mono ?_;rintro e w10 ⟨rfl,h1,h2⟩
              have HS10:=Lib.hid (h1.eq HE.out)
              have HO10:=Lib.hid (HO9.out.fr h2)
              have HF10:=Lib.hid (HF9.out.trans h2)
              clear h1 h2
              go_wp2_with fail
              go_roundw
              case rel=>exact ⟨i+1,s2,_,vn1,vf1,by go_num,HLT.out,HIN2,HSW2,HS10,HO10,HF10⟩
              case measure=>have:=HLT.out;simp [intOf];omega
            | false =>
              cases B2 with
              | false =>
                have HE:Hid (failW 15 nm 0 s1=s2):=by unfold Hid;rw [HST.out,if_neg (by decide),if_pos rfl]
                go_wp2_with fail
                refine (dlfail_any HS9.out 15 nm 0).mono ?_;rintro e w10 ⟨rfl,h1,h2⟩
                have HS10:=Lib.hid (h1.eq HE.out)
                have HO10:=Lib.hid (HO9.out.fr h2)
                have HF10:=Lib.hid (HF9.out.trans h2)
                clear h1 h2
                go_wp2_with fail
                go_roundw
                case rel=>exact ⟨i+1,s2,_,vn1,vf1,by go_num,HLT.out,HIN2,HSW2,HS10,HO10,HF10⟩
                case measure=>have:=HLT.out;simp [intOf];omega
              | true =>
                obtain ⟨nA,nc,zl,rfl,-,-,-,hrdn,halln⟩:=HS9.out.nm.sl strA_size
                obtain rfl:zl=s1.names:=List.ext_getElem halln.len (fun i h1 h2=>halln.at_ i h1 h2)
                have e2:w9.cell? ⟨g,2,none⟩=some (.slice nA s1.names.length nc):=HS9.out.cs.2.2.1
                have HHN:Hid (Calls Tryz.prog 35 #[.slice nA s1.names.length nc,.string ⟨y.toArray⟩] w9 fun e w'=>e = .returned (.bool B3)∧Nx w9 w'):=by
                  refine dhas_any nA nc s1.names w9 (fun h0=>?_) HNL.out y B3 hB3.out
                  obtain ⟨k9,a1,a2,a3⟩:=hrdn h0
                  refine ⟨k9,a1,fun i hi=>?_⟩
                  have:=a3 i hi 0 (by decide)
                  rw [show i * 1+0=i by omega] at this
                  exact this
                clear hrdn halln
                go_wp2_with fail
                refine HHN.out.mono ?_;rintro e w11 ⟨rfl,hn11⟩
                have HS11:=Lib.hid (HS9.out.next hn11)
                have HO11:=Lib.hid (HO9.out.fr (DlF.nx hn11 _ vf1))
                have HF11:=Lib.hid (HF9.out.trans (DlF.nx hn11 _ vf1))
                clear hn11 HHN e2
                cases B3 with
                | true =>
                  have HE:Hid (s1=s2):=by unfold Hid;rw [HST.out,if_neg (by decide),if_neg (by decide),if_pos rfl]
                  have HS12:=Lib.hid (HS11.out.eq HE.out)
                  go_wp2_with fail
                  go_roundw
                  case rel=>exact ⟨i+1,s2,_,_,vf1,by go_num,HLT.out,HIN2,HSW2,HS12,HO11,HF11⟩
                  case measure=>have:=HLT.out;simp [intOf];omega
                | false =>
                  have HE:Hid (downW xs k opn2 y s1=s2):=by unfold Hid;rw [HST.out,if_neg (by decide),if_neg (by decide),if_neg (by decide)]
                  go_wp2_with fail
                  refine (HV.out w11 s1 _ _ vf1 opn2 y HS11.out HO11.out HND2.out HAL2.out hB2.out hB1.out HLE2.out _ HSW.out HSB.out).mono ?_;rintro e w12 ⟨rfl,vo2,vn2,vf2,h1,h2,h3⟩
                  have HS12:=Lib.hid (h1.eq HE.out)
                  have HO12:=Lib.hid h2
                  have HF12:=Lib.hid (HF11.out.trans h3)
                  clear h1 h2 h3
                  go_wp2_with fail
                  go_roundw
                  case rel=>exact ⟨i+1,s2,_,_,_,by go_num,HLT.out,HIN2,HSW2,HS12,HO12,HF12⟩
                  case measure=>have:=HLT.out;simp [intOf];omega
          · have b1:((s1.e:Int) == 0)=false:=by rw [beq_eq_false_iff_ne];omega
            obtain ⟨rfl,hsw⟩:=HSE.out (.inr he)
            have HSW2:=Lib.hid hsw
            clear hsw he HSE
            go_wp2_with fail
            go_meet
            case rel=>exact ⟨vo1,vn1,vf1,HS,HO,HF,HSW2⟩
        · have q1:decide ((i:Int)<(F.incs.length:Int))=false:=decide_eq_false (by omega)
          have q2:¬ (i:Int)<(F.incs.length:Int):=by omega
          obtain ⟨rfl,hsw⟩:=HSE.out (.inl (by omega))
          have HSW2:=Lib.hid hsw
          clear hsw hlt HSE
          go_wp2_with fail
          go_meet
          case rel=>exact ⟨vo1,vn1,vf1,HS,HO,HF,HSW2⟩
    case rest =>
    obtain ⟨vo1,vn1,vf1,HS,HO,HF,HSE⟩:=hcut
    obtain ⟨oA2,oc2,rfl,hoc,hoc2,-,-⟩:=HO.out.rd
    have hl2:opn2.length=opn.length+1:=by rw [← hop2.out];simp
    rw [hl2] at hoc HS HO
    have HO2:Hid (OpR w0.heap.size g vn1 vf1 wc (.slice oA2 opn.length oc2) opn):=by
      have:=HO.out
      rw [← hop2.out] at this
      exact this.cut
    clear hl2
    obtain ⟨nA,nc,-,rfl,-,-,-,-,-⟩:=HS.out.nm.sl strA_size
    obtain ⟨fA,fc,-,rfl,-,-,-,-,-⟩:=HS.out.fl.sl (show ∀ x,(filA x).size=3 from fun _=>rfl)
    have hoI:(opn.length:Int)+1≤(oc2:Int):=by omega
    have hoJ:(opn.length:Int)+1 - 1=(opn.length:Int):=by omega
    have hoK:(oc2:Int)≤9223372036854775807:=by have:oc2≤maxLen:=hoc2;unfold maxLen at this;omega
    have hoL:(opn.length:Int)≤5:=by have:=HLEN.out;have:=HN5.out;omega
    have hoW:IntKind.i64.wrap (opn.length:Int)=(opn.length:Int):=by rw [IntKind.wrap_i64];omega
    have hoN:(opn.length:Int)≤(oc2:Int):=by omega
    have L1:∀ x:Gr wc,x.1.cell? ⟨g,4,none⟩=some (.slice oA2 (opn.length+1) oc2):=fun x=>(HS.out.next x.2).cs.2.2.2.2.1
    clear hoc2
    go_wp2_with fail
    refine EH.wp_region_hyb [14] [(1,1),(2,1),(3,1),(4,1),(5,1),(6,1),(7,1),(8,1),(9,1),(10,1),(11,1),(0,2),(12,2),(13,2),(14,0)] rfl (by kernel_rfl) ?_
    iterate 11 (refine EH.hyb_calm rfl (fun K hK=>?_);go_simp;refine hK _ ?_;clear hK K)
    iterate 3 (refine EH.hyb_pure rfl (fun K hK=>?_);go_simp;refine hK _ ?_;clear hK K)
    clear L1
    refine EH.hyb_alone rfl (fun w9 hn9 K hK=>?_)
    have hs9:=HS.out.next hn9
    have c9:w9.cell? ⟨g,4,none⟩=some (.slice oA2 (opn.length+1) oc2):=hs9.cs.2.2.2.2.1
    have f9:=hs9.fs 4
    have hs10:=hs9.put (s':=S) 4 (.slice oA2 opn.length oc2) ⟨rfl,rfl⟩ rfl
    have hf10:=(HF.out.trans (DlF.nx hn9 _ _)).trans (DlF.put w9 g 4 (.slice oA2 opn.length oc2) (.slice nA S.names.length nc) (.slice fA S.files.length fc))
    have ho10:=(HO2.out.fr (DlF.nx hn9 _ _)).fr (DlF.put w9 g 4 (.slice oA2 opn.length oc2) (.slice nA S.names.length nc) (.slice fA S.files.length fc))
    go_simp
    refine hK _ _ (.inl (by simp)) ?_
    clear hK K
    refine EH.hyb_nil (fun wd hnd=>?_)
    have HS2':=Lib.hid (hs10.next hnd)
    have HF2':=Lib.hid (hf10.trans (DlF.nx hnd _ _))
    have HO2':=Lib.hid (ho10.fr (DlF.nx hnd _ _))
    clear hs9 c9 f9 hs10 hf10 ho10 hnd hn9 HS HO HF HO2 hoc hoI hoJ hoK hoL hoW hoN HS7 HO7 HF67 HSW0 HND2 HAL2 HI5
    have HBD:Hid (Blk wd g7 g7 #[.slice iA F.incs.length ic,.slice sA F.spaces.length sc,.slice dA F.defs.length dc] 74) :=
      ⟨HB3.out.1,by rw [HF2'.out.block g7 HB3.out.lt HG7'.out.1 HG7'.out.2.1 HG7'.out.2.2];exact HB3.out.2⟩
    have HNM2:Hid ((S.names.length:Int)≤100000):=by have:=HSE.out.1;unfold Hid;omega
    have HNF2:Hid ((S.files.length:Int)≤100000):=by have:=HSE.out.2;unfold Hid;omega
    go_upto_region 17 with (fail)
    have hS2:=HS2'.out
    obtain ⟨fx,hfx,hE⟩:=hS2.fl
    obtain ⟨nx,hnx,hE2⟩:=hS2.nm
    obtain rfl:nx=S.names:=List.ext_getElem hE2.len (fun i h3 h4=>hE2.at_ i h3 h4)
    have HE:=Lib.hid hE
    have HSN:Hid (Sl (P9 wd (.slice nA S.names.length nc)) strA 1 9 wd (.slice nA S.names.length nc) S.names):=⟨hnx.1,fun b e=>.inl e⟩
    have HSF:Hid (Sl (P9 wd (.slice fA S.files.length fc)) filA 3 74 wd (.slice fA S.files.length fc) fx):=⟨hfx.1,fun b e=>.inl e⟩
    have HON:Hid (∀ b,(.slice nA S.names.length nc:Value).ownBlock=some b→b<wd.heap.size∧b≠g∧(.slice fA S.files.length fc:Value).ownBlock≠some b):=fun b e=>⟨(hS2.onb b e).2,(hS2.onb b e).1.2.1,(hS2.onb b e).1.2.2⟩
    have HOF:Hid (∀ b,(.slice fA S.files.length fc:Value).ownBlock=some b→b<wd.heap.size∧b≠g):=fun b e=>⟨(hS2.ofb b e).2,(hS2.ofb b e).1.2.1⟩
    have HGD:Hid (g<wd.heap.size):=hS2.gl
    have HGN:Hid ((.slice nA S.names.length nc:Value).ownBlock≠some g7∧(.slice fA S.files.length fc:Value).ownBlock≠some g7):=by
      refine ⟨fun e=>?_,fun e=>?_⟩
      · exact (HF2'.out.ownn g7 e).elim HG7'.out.2.1 (by have:=HB3.out.lt;omega)
      · exact (HF2'.out.ownf g7 e).elim HG7'.out.2.2 (by have:=HB3.out.lt;omega)
    have HFXE:fx.length=S.files.length:=hE.len
    have HFXL:Hid ((fx.length:Int)≤100000):=by have:=HNF2.out;unfold Hid;omega
    have HFL:Hid ((.slice fA S.files.length fc:Value) = .slice fA S.files.length fc):=rfl
    have HRF:Hid (RFile wd (But (Pd w0.heap.size g (.slice nA S.names.length nc)) (.slice fA S.files.length fc)) ⟨.slice iA F.incs.length ic,.slice sA F.spaces.length sc,.slice dA F.defs.length dc⟩ F):=by
      refine RFile.lasts ⟨fun k hp hl=>?_,fun k hp hl=>?_⟩ HHR.out
      all_goals
        have h1:w1.heap.size≤k:=hp
        have h2:=HN1.out.size
        have h3:=H.out.gl
        have h4:vn.ownBlock≠some k:=fun e=>by have:=(H.out.onb _ e).2;omega
        have h5:vf.ownBlock≠some k:=fun e=>by have:=(H.out.ofb _ e).2;omega
        have h6:k<w3.heap.size:=Nat.lt_of_lt_of_le hl HN3.out.size
      · exact (HF2'.out.block k h6 (by omega) h4 h5).trans (HN3.out.block k hl)
      · exact ⟨⟨by have:=H.out.nx.size;omega,by omega,fun e=>(HF2'.out.ownn k e).elim h4 (by omega)⟩,fun e=>(HF2'.out.ownf k e).elim h5 (by omega)⟩
    clear hS2 hfx hnx hE hE2 HFXE
    refine RI.wp_region_M (RI.Vof (reg17 wd g (.slice nA S.names.length nc) (.slice fA S.files.length fc) nm ⟨.slice iA F.incs.length ic,.slice sA F.spaces.length sc,.slice dA F.defs.length dc⟩ (S.names++[nm]) (fx++[⟨.slice iA F.incs.length ic,.slice sA F.spaces.length sc,.slice dA F.defs.length dc⟩])))
      (SNl rt (.slice A n c) (.slice oA2 opn.length oc2) S wd g w0.heap.size (.slice nA S.names.length nc) (.slice fA S.files.length fc) (S.names++[nm]) (fx++[⟨.slice iA F.incs.length ic,.slice sA F.spaces.length sc,.slice dA F.defs.length dc⟩]))
      (RW2 g (.slice nA S.names.length nc) (.slice fA S.files.length fc)) rfl (by kernel_rfl) (by kernel_rfl) (reg17_keep HGD.out HON.out HOF.out) ?_ ?_ ?_
    · refine (show SN _ _ _ _ _ _ _ _ _ _ _ false false false false _ from ⟨rfl,rfl,rfl,Nat.le_refl _,fun _ _ _ _ _=>rfl,_,_,HS2'.out.bl.below (Nx.drawn _),fun _=>rfl,fun e=>(by cases e),fun _=>rfl,fun e=>(by cases e)⟩)
    · refine ⟨?_,?_,?_,?_,?_,?_,?_,?_,?_,?_,?_,?_,?_,?_,?_,?_,?_,?_,?_,?_,?_,?_,?_,?_,?_,?_,trivial⟩
      · intro a x ls w' hS hsz hni hcl hun hin hout hd K hK
        have o:a.eval (.tmp 0) = .pointer (some ⟨g,0,none⟩):=hout 0 (by kernel_rfl)
        clear hin hout hun
        exact hK w' _ o (hS.set (Nx.refl _) 0 (by decide) (by decide) (by decide) (by decide)) (RW2.nx (Nx.refl _))
      · intro a x ls w' hS hsz hni hcl hun hin hout hd K hK
        have o:a.eval (.tmp 0) = .pointer (some ⟨g,0,none⟩):=hout 0 (by kernel_rfl)
        clear hin hout hun
        exact hK w' _ o (hS.set (Nx.refl _) 1 (by decide) (by decide) (by decide) (by decide)) (RW2.nx (Nx.refl _))
      · intro a x ls w' hS hsz hni hcl hun hin hout hd K hK
        have o:a.eval (.tmp 0) = .pointer (some ⟨g,0,none⟩):=hout 0 (by kernel_rfl)
        clear hin hout hun
        exact hK w' _ o (hS.set (Nx.refl _) 2 (by decide) (by decide) (by decide) (by decide)) (RW2.nx (Nx.refl _))
      · intro a x ls w' hS hsz hni hcl hun hin hout hd K hK
        have q:a.tmps.getD 113 undef = .pointer (some ⟨g,0,none⟩):=(hin 113 2 (by kernel_rfl) (show 113<135 by decide)).trans (hd ⟨2,.data⟩ (by simp) rfl)
        clear hin hout hun hd hcl
        have HS:=Lib.hid hS
        clear hS
        go_simp
        exact hK w' _ rfl (HS.out.set (Nx.refl _) 3 (by decide) (by decide) (by decide) (by decide)) (RW2.nx (Nx.refl _))
      · intro a x ls w' hS hsz hni hcl hun hin hout hd K hK
        have q:a.tmps.getD 114 undef = .pointer (some ⟨g,0,none⟩):=(hin 114 3 (by kernel_rfl) (show 114<135 by decide)).trans (hd ⟨3,.data⟩ (by simp) rfl)
        clear hin hout hun hd hcl
        have HS:=Lib.hid hS
        clear hS
        go_simp
        exact hK w' _ rfl (HS.out.set (Nx.refl _) 4 (by decide) (by decide) (by decide) (by decide)) (RW2.nx (Nx.refl _))
      · intro a x ls w' hS hsz hni hcl hun hin hout hd K hK
        have q:a.tmps.getD 115 undef = .pointer (some ⟨g,2,none⟩):=(hin 115 4 (by kernel_rfl) (show 115<135 by decide)).trans (hd ⟨4,.data⟩ (by simp) rfl)
        clear hin hout hun hd hcl
        have HS:=Lib.hid hS
        clear hS
        go_simp
        exact hK w' _ rfl (HS.out.set (Nx.refl _) 5 (by decide) (by decide) (by decide) (by decide)) (RW2.nx (Nx.refl _))
      · intro a x ls w' hS hsz hni hcl hun hin hout hd K hK
        have q:a.tmps.getD 116 undef = .pointer (some ⟨g,2,none⟩):=(hin 116 5 (by kernel_rfl) (show 116<135 by decide)).trans (hd ⟨5,.data⟩ (by simp) rfl)
        have n21:=hcl.not 26 21 6 (by kernel_rfl) hni
        obtain ⟨c2,c3,hb,h2,-,h4,-⟩:=hS.ex
        have cc:w'.cell? ⟨g,2,none⟩=some (.slice nA S.names.length nc):=by have:=hb.cell 2;rw [show csW rt (.slice A n c) (.slice oA2 opn.length oc2) S c2 c3=#[bt rt,.slice A n c,c2,c3,.slice oA2 opn.length oc2,.int .i64 (S.e:Int),bt S.file,.int .i64 (S.at_:Int)] from rfl] at this;rw [h2 n21] at this;exact this
        clear hb h2 h4
        clear hin hout hun hd hcl
        have HS:=Lib.hid hS
        clear hS
        go_simp
        exact hK w' _ rfl (HS.out.set (Nx.refl _) 6 (by decide) (by decide) (by decide) (by decide)) (RW2.nx (Nx.refl _))
      · intro a x ls w' hS hsz hni hcl hun hin hout hd K hK
        have o:a.eval (.tmp 1) = .string ⟨nm.toArray⟩:=hout 1 (by kernel_rfl)
        clear hin hout hun
        exact hK w' _ o (hS.set (Nx.refl _) 7 (by decide) (by decide) (by decide) (by decide)) (RW2.nx (Nx.refl _))
      · intro a x ls w' hS hsz hni hcl hun hin hout hd K hK
        have q:a.tmps.getD 118 undef = .string ⟨nm.toArray⟩:=(hin 118 7 (by kernel_rfl) (show 118<135 by decide)).trans (hd ⟨7,.data⟩ (by simp) rfl)
        have q2:=q
        rw [Array.getD_eq_getD_getElem?] at q2
        have hw0:=hS.size
        clear hin hout hun hd hcl
        have HS:=Lib.hid hS
        clear hS
        go_simp
        exact hK (w'.alloc (.cells #[.string ⟨nm.toArray⟩] 9)) (.slice (some ⟨w'.heap.size,0,none⟩) 1 1) ⟨_,rfl,hw0,by simp,fun j hj=>(Blk.new w' #[.string ⟨nm.toArray⟩] 9).cell j⟩ (HS.out.set (nx0 _ _) 8 (by decide) (by decide) (by decide) (by decide)) (RW2.nx (nx0 _ _))
      · intro a x ls w' hS hsz hni hcl hun hin hout hd K hK
        have q1:a.eval (.tmp 117) = .slice nA S.names.length nc:=(hin 117 6 (by kernel_rfl) (show 117<135 by decide)).trans (hd ⟨6,.data⟩ (by simp) rfl)
        obtain ⟨k8,r1,r2,r3,r4⟩:=hd ⟨8,.data⟩ (by simp) rfl
        have q2:a.eval (.tmp 119) = .slice (some ⟨k8,0,none⟩) 1 1:=(hin 119 8 (by kernel_rfl) (show 119<135 by decide)).trans r1
        have n9:=hcl.not 26 9 9 (by kernel_rfl) hni
        have n17:=hcl.not 26 17 9 (by kernel_rfl) hni
        have n21:=hcl.not 26 21 9 (by kernel_rfl) hni
        have n25:=hcl.not 26 25 9 (by kernel_rfl) hni
        unfold SNl at hS
        rw [n9,n17,n21,n25] at hS
        have hsl:=(HSN.out.mv (w':=w') (Q:=P9 wd (.slice nA S.names.length nc)) ⟨fun b hb hl=>hS.block b hl (HON.out b (hb.resolve_right (by omega))).2.1 (.inl rfl) (.inl rfl),fun b hb _=>hb⟩).rep
        have hsz2:=hS.size
        clear hin hout hun hd hcl r1
        refine op_appP w' REq.lasts infoI Tryz.underlying25 rfl (by decide) (by decide) strA_size _ _ rfl (P9 wd (.slice nA S.names.length nc)) _ _ nm nm q1 hsl (fun u hu=>by simp [strA] at hu;subst hu;rfl) k8 q2 r4 rfl HNM2.out (fun j hj=>.inr (by omega)) ?_
        intro v' w2 hr2 hg2
        refine hK w2 v' ?_ ?_ ?_
        · obtain ⟨A9,c9,-,e9,-,-,-,-,-⟩:=hr2.sl strA_size
          exact ⟨A9,c9,e9,hr2.sl_⟩
        · unfold SNl
          rw [getD_put1 _ _ (by rw [hsz];decide),getD_put _ _ _ (by decide),getD_put _ _ _ (by decide),getD_put _ _ _ (by decide),n17,n21,n25]
          exact hS.app9 hg2 (fun e=>(HON.out _ e).2.1 rfl)
        · exact ⟨hg2.size,fun b hb _ h9 _=>hg2.block b hb (h9.resolve_left (by rw [n9];decide))⟩
      · intro a x ls w' hS hsz hni hcl hun hin hout hd K hK
        have o:a.eval (.tmp 0) = .pointer (some ⟨g,0,none⟩):=hout 0 (by kernel_rfl)
        clear hin hout hun
        exact hK w' _ o (hS.set (Nx.refl _) 10 (by decide) (by decide) (by decide) (by decide)) (RW2.nx (Nx.refl _))
      · intro a x ls w' hS hsz hni hcl hun hin hout hd K hK
        have q:a.tmps.getD 121 undef = .pointer (some ⟨g,0,none⟩):=(hin 121 10 (by kernel_rfl) (show 121<135 by decide)).trans (hd ⟨10,.data⟩ (by simp) rfl)
        clear hin hout hun hd hcl
        have HS:=Lib.hid hS
        clear hS
        go_simp
        exact hK w' _ rfl (HS.out.set (Nx.refl _) 11 (by decide) (by decide) (by decide) (by decide)) (RW2.nx (Nx.refl _))
      · intro a x ls w' hS hsz hni hcl hun hin hout hd K hK
        have q:a.tmps.getD 122 undef = .pointer (some ⟨g,0,none⟩):=(hin 122 11 (by kernel_rfl) (show 122<135 by decide)).trans (hd ⟨11,.data⟩ (by simp) rfl)
        clear hin hout hun hd hcl
        have HS:=Lib.hid hS
        clear hS
        go_simp
        exact hK w' _ rfl (HS.out.set (Nx.refl _) 12 (by decide) (by decide) (by decide) (by decide)) (RW2.nx (Nx.refl _))
      · intro a x ls w' hS hsz hni hcl hun hin hout hd K hK
        have q:a.tmps.getD 123 undef = .pointer (some ⟨g,2,none⟩):=(hin 123 12 (by kernel_rfl) (show 123<135 by decide)).trans (hd ⟨12,.data⟩ (by simp) rfl)
        clear hin hout hun hd hcl
        have HS:=Lib.hid hS
        clear hS
        go_simp
        exact hK w' _ rfl (HS.out.set (Nx.refl _) 13 (by decide) (by decide) (by decide) (by decide)) (RW2.nx (Nx.refl _))
      · intro a x ls w' hS hsz hni hcl hun hin hout hd K hK
        have q:a.tmps.getD 124 undef = .pointer (some ⟨g,3,none⟩):=(hin 124 13 (by kernel_rfl) (show 124<135 by decide)).trans (hd ⟨13,.data⟩ (by simp) rfl)
        have n25:=hcl.not 26 25 14 (by kernel_rfl) hni
        obtain ⟨c2,c3,hb,h2,-,h4,-⟩:=hS.ex
        have cc:w'.cell? ⟨g,3,none⟩=some (.slice fA S.files.length fc):=by have:=hb.cell 3;rw [show csW rt (.slice A n c) (.slice oA2 opn.length oc2) S c2 c3=#[bt rt,.slice A n c,c2,c3,.slice oA2 opn.length oc2,.int .i64 (S.e:Int),bt S.file,.int .i64 (S.at_:Int)] from rfl] at this;rw [h4 n25] at this;exact this
        clear hb h2 h4
        clear hin hout hun hd hcl
        have HS:=Lib.hid hS
        clear hS
        go_simp
        exact hK w' _ rfl (HS.out.set (Nx.refl _) 14 (by decide) (by decide) (by decide) (by decide)) (RW2.nx (Nx.refl _))
      · intro a x ls w' hS hsz hni hcl hun hin hout hd K hK
        have o:a.tmps.getD 6 undef = .pointer (some ⟨g7,0,none⟩):=hout 6 (by kernel_rfl)
        have hb7:w'.heap[g7]? = wd.heap[g7]?:=hS.block g7 HBD.out.lt HG7'.out.1 (.inr HGN.out.1) (.inr HGN.out.2)
        have m0:w'.cell? ⟨g7,0,none⟩=some (.slice iA F.incs.length ic):=(World.cell?_of_block hb7).trans (HBD.out.cell 0)
        have m1:w'.cell? ⟨g7,1,none⟩=some (.slice sA F.spaces.length sc):=(World.cell?_of_block hb7).trans (HBD.out.cell 1)
        have m2:w'.cell? ⟨g7,2,none⟩=some (.slice dA F.defs.length dc):=(World.cell?_of_block hb7).trans (HBD.out.cell 2)
        clear hin hout hun hd hcl hb7
        have HS:=Lib.hid hS
        clear hS
        go_simp
        exact hK w' _ rfl (HS.out.set (Nx.refl _) 15 (by decide) (by decide) (by decide) (by decide)) (RW2.nx (Nx.refl _))
      · intro a x ls w' hS hsz hni hcl hun hin hout hd K hK
        have q:a.tmps.getD 126 undef = .agg #[.slice iA F.incs.length ic,.slice sA F.spaces.length sc,.slice dA F.defs.length dc]:=(hin 126 15 (by kernel_rfl) (show 126<135 by decide)).trans (hd ⟨15,.data⟩ (by simp) rfl)
        have q2:=q
        rw [Array.getD_eq_getD_getElem?] at q2
        have hw0:=hS.size
        clear hin hout hun hd hcl
        have HS:=Lib.hid hS
        clear hS
        go_simp
        exact hK (w'.alloc (.cells #[.slice iA F.incs.length ic,.slice sA F.spaces.length sc,.slice dA F.defs.length dc] 74)) (.slice (some ⟨w'.heap.size,0,none⟩) 1 1) ⟨_,rfl,hw0,by simp,fun j hj=>(Blk.new w' #[.slice iA F.incs.length ic,.slice sA F.spaces.length sc,.slice dA F.defs.length dc] 74).cell j⟩ (HS.out.set (nx0 _ _) 16 (by decide) (by decide) (by decide) (by decide)) (RW2.nx (nx0 _ _))
      · intro a x ls w' hS hsz hni hcl hun hin hout hd K hK
        have q1:a.eval (.tmp 125) = .slice fA S.files.length fc:=(hin 125 14 (by kernel_rfl) (show 125<135 by decide)).trans (hd ⟨14,.data⟩ (by simp) rfl)
        obtain ⟨k8,r1,r2,r3,r4⟩:=hd ⟨16,.data⟩ (by simp) rfl
        have q2:a.eval (.tmp 127) = .slice (some ⟨k8,0,none⟩) 1 1:=(hin 127 16 (by kernel_rfl) (show 127<135 by decide)).trans r1
        have n17:=hcl.not 26 17 17 (by kernel_rfl) hni
        have n21:=hcl.not 26 21 17 (by kernel_rfl) hni
        have n25:=hcl.not 26 25 17 (by kernel_rfl) hni
        unfold SNl at hS
        rw [n17,n21,n25] at hS
        have Q17:=q1
        have hsl:=(HSF.out.mv (w':=w') (Q:=P9 wd (.slice fA S.files.length fc)) ⟨fun b hb hl=>hS.block b hl (HOF.out b (hb.resolve_right (by omega))).2 (.inr fun e=>(HON.out b e).2.2 (hb.resolve_right (by omega))) (.inl rfl),fun b hb _=>hb⟩).rep
        have hsz2:=hS.size
        clear hin hout hun hd hcl r1
        refine op_appP w' REq.lasts infoU Tryz.underlying26 rfl (by decide) (by decide) (fun _=>rfl) _ _ rfl (P9 wd (.slice fA S.files.length fc)) _ _ (⟨.slice iA F.incs.length ic,.slice sA F.spaces.length sc,.slice dA F.defs.length dc⟩:FilS) (⟨.slice iA F.incs.length ic,.slice sA F.spaces.length sc,.slice dA F.defs.length dc⟩:FilS) Q17 hsl (fun u hu=>by simp [filA] at hu;rcases hu with rfl | rfl | rfl <;> rfl) k8 q2 r4 rfl HFXL.out (fun j hj=>.inr (by omega)) ?_
        intro v' w2 hr2 hg2
        refine hK w2 v' ?_ ?_ ?_
        · obtain ⟨A9,c9,-,e9,-,-,-,-,-⟩:=hr2.sl (show ∀ x,(filA x).size=3 from fun _=>rfl)
          exact ⟨A9,c9,e9,hr2.sl_⟩
        · unfold SNl
          rw [getD_put1 _ _ (by rw [hsz];decide),getD_put _ _ _ (by decide),getD_put _ _ _ (by decide),getD_put _ _ _ (by decide),n21,n25]
          exact hS.app17 hg2 (fun e=>(HOF.out _ e).2 rfl)
        · exact ⟨hg2.size,fun b hb _ _ h9=>hg2.block b hb (h9.resolve_left (by rw [n17];decide))⟩
      · intro a x ls w' hS hsz hni hcl hun hin hout hd K hK
        have q:a.tmps.getD 111 undef = .pointer (some ⟨g,0,none⟩):=(hin 111 0 (by kernel_rfl) (show 111<135 by decide)).trans (hd ⟨0,.data⟩ (by simp) rfl)
        clear hin hout hun hd hcl
        have HS:=Lib.hid hS
        clear hS
        go_simp
        exact hK w' _ rfl (HS.out.set (Nx.refl _) 18 (by decide) (by decide) (by decide) (by decide)) (RW2.nx (Nx.refl _))
      · intro a x ls w' hS hsz hni hcl hun hin hout hd K hK
        have q:a.tmps.getD 129 undef = .pointer (some ⟨g,0,none⟩):=(hin 129 18 (by kernel_rfl) (show 129<135 by decide)).trans (hd ⟨18,.data⟩ (by simp) rfl)
        clear hin hout hun hd hcl
        have HS:=Lib.hid hS
        clear hS
        go_simp
        exact hK w' _ rfl (HS.out.set (Nx.refl _) 19 (by decide) (by decide) (by decide) (by decide)) (RW2.nx (Nx.refl _))
      · intro a x ls w' hS hsz hni hcl hun hin hout hd K hK
        have q:a.tmps.getD 130 undef = .pointer (some ⟨g,2,none⟩):=(hin 130 19 (by kernel_rfl) (show 130<135 by decide)).trans (hd ⟨19,.data⟩ (by simp) rfl)
        clear hin hout hun hd hcl
        have HS:=Lib.hid hS
        clear hS
        go_simp
        exact hK w' _ rfl (HS.out.set (Nx.refl _) 20 (by decide) (by decide) (by decide) (by decide)) (RW2.nx (Nx.refl _))
      · intro a x ls w' hS hsz hni hcl hun hin hout hd K hK
        have q:a.tmps.getD 131 undef = .pointer (some ⟨g,2,none⟩):=(hin 131 20 (by kernel_rfl) (show 131<135 by decide)).trans (hd ⟨20,.data⟩ (by simp) rfl)
        have hv:=hd ⟨9,.data⟩ (by simp) rfl
        obtain ⟨A9,c9,e9,-⟩:=id hv
        rw [show (S.names++[nm]).length=S.names.length+1 by simp] at e9
        have q2:a.tmps.getD 120 undef = .slice A9 _ c9:=(hin 120 9 (by kernel_rfl) (show 120<135 by decide)).trans e9
        rw [e9] at hv
        have n21:=hcl.not 26 21 21 (by kernel_rfl) hni
        have n25:=hcl.not 26 25 21 (by kernel_rfl) hni
        unfold SNl at hS
        rw [n21,n25] at hS
        obtain ⟨c2,c3,hb,-⟩:=hS.ex
        have cc:∃ u,w'.cell? ⟨g,2,none⟩=some u:=⟨_,hb.cell 2⟩
        obtain ⟨u,cc⟩:=cc
        have ff:=hb.free 2
        have HS:=Lib.hid hS
        have HV:=Lib.hid hv
        clear hS hv hb hin hout hun hd hcl e9
        go_simp
        refine hK (w'.setCell ⟨g,2,none⟩ (.slice A9 _ c9)) undef trivial ?_ ⟨by simp [World.setCell],fun b hb hbg _ _=>set_block hbg⟩
        unfold SNl
        rw [getD_put1 _ _ (by rw [hsz];decide),getD_put _ _ _ (by decide),getD_put _ _ _ (by decide),getD_put _ _ _ (by decide),n25];exact HS.out.put21 HV.out (fun e=>(HON.out _ e).2.1 rfl) HGD.out
      · intro a x ls w' hS hsz hni hcl hun hin hout hd K hK
        have q:a.tmps.getD 112 undef = .pointer (some ⟨g,0,none⟩):=(hin 112 1 (by kernel_rfl) (show 112<135 by decide)).trans (hd ⟨1,.data⟩ (by simp) rfl)
        clear hin hout hun hd hcl
        have HS:=Lib.hid hS
        clear hS
        go_simp
        exact hK w' _ rfl (HS.out.set (Nx.refl _) 22 (by decide) (by decide) (by decide) (by decide)) (RW2.nx (Nx.refl _))
      · intro a x ls w' hS hsz hni hcl hun hin hout hd K hK
        have q:a.tmps.getD 132 undef = .pointer (some ⟨g,0,none⟩):=(hin 132 22 (by kernel_rfl) (show 132<135 by decide)).trans (hd ⟨22,.data⟩ (by simp) rfl)
        clear hin hout hun hd hcl
        have HS:=Lib.hid hS
        clear hS
        go_simp
        exact hK w' _ rfl (HS.out.set (Nx.refl _) 23 (by decide) (by decide) (by decide) (by decide)) (RW2.nx (Nx.refl _))
      · intro a x ls w' hS hsz hni hcl hun hin hout hd K hK
        have q:a.tmps.getD 133 undef = .pointer (some ⟨g,2,none⟩):=(hin 133 23 (by kernel_rfl) (show 133<135 by decide)).trans (hd ⟨23,.data⟩ (by simp) rfl)
        clear hin hout hun hd hcl
        have HS:=Lib.hid hS
        clear hS
        go_simp
        exact hK w' _ rfl (HS.out.set (Nx.refl _) 24 (by decide) (by decide) (by decide) (by decide)) (RW2.nx (Nx.refl _))
      · intro a x ls w' hS hsz hni hcl hun hin hout hd K hK
        have q:a.tmps.getD 134 undef = .pointer (some ⟨g,3,none⟩):=(hin 134 24 (by kernel_rfl) (show 134<135 by decide)).trans (hd ⟨24,.data⟩ (by simp) rfl)
        have hv:=hd ⟨17,.data⟩ (by simp) rfl
        obtain ⟨A9,c9,e9,-⟩:=id hv
        rw [show (fx++[(⟨.slice iA F.incs.length ic,.slice sA F.spaces.length sc,.slice dA F.defs.length dc⟩:FilS)]).length=fx.length+1 by simp] at e9
        have q2:a.tmps.getD 128 undef = .slice A9 _ c9:=(hin 128 17 (by kernel_rfl) (show 128<135 by decide)).trans e9
        rw [e9] at hv
        have n25:=hcl.not 26 25 25 (by kernel_rfl) hni
        unfold SNl at hS
        rw [n25] at hS
        obtain ⟨c2,c3,hb,-⟩:=hS.ex
        have cc:∃ u,w'.cell? ⟨g,3,none⟩=some u:=⟨_,hb.cell 3⟩
        obtain ⟨u,cc⟩:=cc
        have ff:=hb.free 3
        have HS:=Lib.hid hS
        have HV:=Lib.hid hv
        clear hS hv hb hin hout hun hd hcl e9
        go_simp
        refine hK (w'.setCell ⟨g,3,none⟩ (.slice A9 _ c9)) undef trivial ?_ ⟨by simp [World.setCell],fun b hb hbg _ _=>set_block hbg⟩
        unfold SNl
        rw [getD_put1 _ _ (by rw [hsz];decide),getD_put _ _ _ (by decide),getD_put _ _ _ (by decide),getD_put _ _ _ (by decide)];exact HS.out.put25 HV.out (fun e=>(HON.out _ e).2.1 rfl) (fun e=>(HOF.out _ e).2 rfl) HGD.out
    · intro A' x ls w' hS hall hin hout hv HAA
      have e9:=hall 9 (show 9<26 by decide)
      have e17:=hall 17 (show 17<26 by decide)
      have e21:=hall 21 (show 21<26 by decide)
      have e25:=hall 25 (show 25<26 by decide)
      unfold SNl at hS
      rw [e9,e17,e21,e25] at hS
      obtain ⟨vn2,vf2,hS3,hF3⟩:=hS.end_ HS2'.out HE.out HRF.out
      have HS3':=Lib.hid hS3
      have HF4:=Lib.hid (HF3.out.trans (HF2'.out.trans hF3))
      have HO4:=Lib.hid (HO2'.out.fr hF3)
      clear hS hall hin hout hv e9 e17 e21 e25 hS3 hF3
      rw [HAA.out]
      clear HAA
      go_end0
      exact ⟨rfl,_,_,_,HS3'.out.eq HX3.out.symm,HO4.out,HF4.out⟩
  · have b0:((pe:Int) != 0)=true:=by rw [bne_iff_ne];omega
    have HX2:=HX.out
    rw [if_pos hpe] at HX2
    have HX3:=Lib.hid HX2
    clear hpe HX2 HDT HPC HX
    go_wp2_with fail
    refine (dlfail_any HS3.out pe nm pa).mono ?_;rintro e w4 ⟨rfl,h1,h2⟩
    have HF4:=Lib.hid (HF3.out.trans h2)
    have HS4:=Lib.hid h1
    have HO4:=Lib.hid (HO3.out.fr h2)
    clear h1 h2
    go_wp2_with fail
    refine bodyPost_ret (results_noneL rfl _ _) rfl ?_
    exact ⟨rfl,vo,vn,vf,HS4.out.eq HX3.out.symm,HO4.out,HF4.out⟩
end
end Go.Proofs.YtpfecpcgdfbekaaGreatDoor
