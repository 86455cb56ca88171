/-
  Steps.
-/
import Derived.Test.YtdgladhfibfdlaaGreatDoorQPSs32
import Derived.Test.YtdgladhfibfdlaaGreatDoorQPSs31
namespace Go.Proofs.YtdgladhfibfdlaaGreatDoor
open Go Go.RowKit Go.Proofs.Tryz
set_option maxRecDepth 100000
abbrev SBT:TypeId:=48
def Kv:Elt Nat:=⟨1,24,Z0,fun g=> [.slice (some ⟨g,0,none⟩) 512 512],fun _=>rfl,fun e u hu=>by
 simp only[List.mem_cons,List.not_mem_nil,or_false] at hu;subst hu;rfl,by decide,rfl,fun T=>T==SBT⟩
theorem y7p:(prog.info? SBT).map (fun i=>(i.zero,i.size,i.bytes))=some (some Kv.zero,Kv.sz,Kv.by_):=by kernel_rfl
def RoR (w:World):List Nat→List (List Nat)→Prop
 | [],[]=>True
 | g::r,l::s=>(Row w g 5 l∧l.length=512∧B8 l)∧RoR w r s
 | _,_=>False
theorem RoR.len {w:World}:∀{gs:List Nat} {P:List (List Nat)},RoR w gs P→gs.length=P.length
 | [],[],_=>rfl
 | _::_,_::_,h=>by rw[List.length_cons,List.length_cons,RoR.len h.2]
 | [],_::_,h=>h.elim
 | _::_,[],h=>h.elim
theorem RoR.snoc {w:World}{g:Nat}{l:List Nat}:∀{gs:List Nat} {P:List (List Nat)},RoR w gs P→Row w g 5 l∧l.length=512∧B8 l→RoR w (gs++[g]) (P++[l])
 | [],[],_,h=>⟨h,trivial⟩
 | _::_,_::_,h,h2=>⟨h.1,RoR.snoc h.2 h2⟩
 | [],_::_,h,_=>h.elim
 | _::_,[],h,_=>h.elim
theorem RoR.mono {w w':World}(hr:∀g l,Row w g 5 l→Row w' g 5 l):∀{gs:List Nat} {P:List (List Nat)},RoR w gs P→RoR w' gs P
 | [],[],_=>trivial
 | _::_,_::_,h=>⟨⟨hr _ _ h.1.1,h.1.2⟩,RoR.mono hr h.2⟩
 | [],_::_,h=>h.elim
 | _::_,[],h=>h.elim
theorem RoR.below {w w':World}{B:Nat}{gs:List Nat}{P:List (List Nat)}(h:RoR w gs P)(hb:Below B w w')(hB:w.heap.size≤B):RoR w' gs P:=h.mono fun _ _ hr=>hr.below hb (Nat.lt_of_lt_of_le hr.lt hB)
theorem y56 (n:Nat):B8 (List.replicate n 0):=fun x hx=>by
 rw[(List.mem_replicate.1 hx).2];omega
theorem y99:(prog.info? 5).map (fun i=>(i.zero,i.size,i.bytes))=some (some (.int .u8 0),1,1):=by kernel_rfl
theorem z7o (n:Nat)(w:World)(hn:n≤2000):Calls prog 23 #[.int .i64 n] w fun e w'=>∃(u:Value) (gs:List Nat),e=.returned u∧w'.ownsRow w.heap.size SBT Kv.sz u n (Kv.row gs)∧RoR w' gs (List.replicate n (List.replicate 512 0))∧zB w w':=by
 go_enter func23,ntmps23
 go_wp2_with fail
 go_loopw [3,4] (fun u i wr=>∃(k:Nat) (v:Value) (gs:List Nat),v=u∧i=.int .i64 k∧k≤n∧Hid (wr.ownsRow w.heap.size SBT Kv.sz v k (Kv.row gs)∧RoR wr gs (List.replicate k (List.replicate 512 0))∧zB w wr)) (fun _ i _=>n-(intOf i).toNat)
 case atStart=>exact⟨0,Z0,[],rfl,rfl,by omega,World.ownsRow_nil _ _ _ _,trivial,zbr _ _⟩
 case round=>
  obtain⟨k,v,gs,rfl,rfl,hk,hst⟩:=hrel
  by_cases hlt:k<n
  ·go_wp2_with (first
    | (
     refine V6 rfl _ _ SBT rfl 5 underlying48 y99 .i64 .i64 512 512 512 (by rfl) (by rfl) rfl rfl (by omega) ?_;intro W2 hrow hb2;have hB2:=hst.out.2.2.trans (hb2.mono hst.out.2.2.size);have hrow2:Row W2 wr.heap.size 5 (List.replicate 512 0):=hrow.out;have hown2:=Y4 hst.out.1 hb2 (zlr _);have hror2:=hst.out.2.1.below hb2 (zlr _);have hba:zB W2 (W2.alloc (.cells #[.slice (some ⟨wr.heap.size,0,none⟩) 512 512] SBT)):=(zbr _ _).alloc (zlr _) _;have hlit:ES Kv (W2.alloc (.cells #[.slice (some ⟨wr.heap.size,0,none⟩) 512 512] SBT)) (some ⟨W2.heap.size,0,none⟩) [wr.heap.size]:=ES.lit (Y7 W2 SBT #[.slice (some ⟨wr.heap.size,0,none⟩) 512 512]) (by simp[Kv]);have hown3:=Y4 hown2 hba (zlr _);have hgl:=hst.out.2.1.len;obtain⟨v1,w4,hrun,hb4,ht4,ho4⟩:=Ok (P:=prog) (E:=Kv) (w:=W2.alloc (.cells #[.slice (some ⟨wr.heap.size,0,none⟩) 512 512] SBT)) w.heap.size 52 52 SBT underlying52 y7p v k gs hown3 (by have:=hB2.size;simp;omega) (some ⟨W2.heap.size,0,none⟩) 1 1 [wr.heap.size] rfl (by omega) hlit (by unfold maxLen;omega) (by show _*24≤_;omega);have hT4:=TyF.own hown3;have hrw:∀g l,Row W2 g 5 l→Row w4 g 5 l:=fun g l hr=>by
      have h1:=hr.below hba hr.lt;exact ht4.hg h1 (hT4.not h1 (by decide))
     have Hst:Hid (w4.ownsRow w.heap.size SBT Kv.sz v1 (k+1) (Kv.row (gs++[wr.heap.size]))∧RoR w4 (gs++[wr.heap.size]) (List.replicate (k+1) (List.replicate 512 0))∧zB w w4):=by
      refine⟨ho4,?_,(hB2.trans (hba.mono hB2.size)).trans hb4⟩;rw[List.replicate_succ'];exact(hror2.mono hrw).snoc ⟨hrw _ _ hrow2,by simp,y56 512⟩
     clear hrow hb2 hB2 hrow2 hown2 hror2 hba hlit hown3 hgl hb4 ht4 ho4 hT4 hrw hst)
    | (at_builtin;refine Lib.wpList_append_run _ rfl (.tmp 10) (.tmp 12) _ _ rfl _ _ (by rfl) (by rfl) _ _ hrun ?_))
   go_roundw
   case rel=>exact⟨k+1,v1,gs++[wr.heap.size],rfl,by go_num,by omega,Hst⟩
   case measure=>simp[intOf];omega
  ·obtain rfl:k=n:=by omega
   go_wp2;go_ret;exact⟨_,gs,rfl,hst.out⟩
def Dy (P:List (List Nat)):List PgW→List (List Nat)
 | []=>P
 | x::r=>Dy (P.set x.1 x.2) r
theorem z1e (x:PgW):∀(ws:List PgW) (P:List (List Nat)),Dy P (ws++[x])=(Dy P ws).set x.1 x.2
 | [],_=>rfl
 | y::r,P=>by rw[List.cons_append,Dy,Dy,z1e x r]
theorem ZN:∀(ws:List PgW) (P:List (List Nat)),(Dy P ws).length=P.length
 | [],_=>rfl
 | x::r,P=>by rw[Dy,ZN r];simp
theorem WRo.at {w:World}:∀{gs:List (Nat×Nat)} {ws:List PgW} {k:Nat} {x:Nat×Nat} {y:PgW},WRo w gs ws→gs[k]? =some x→ws[k]? =some y→x.1=y.1∧Row w x.2 5 y.2
 | _::_,_::_,0,_,_,h,h1,h2=>by
  simp only[List.getElem?_cons_zero,Option.some.injEq] at h1 h2;subst h1 h2;exact⟨h.1.1,h.1.2.1⟩
 | _::_,_::_,k+1,_,_,h,h1,h2=>WRo.at (k:=k) h.2 (by simpa using h1) (by simpa using h2)
 | [],[],_,_,_,_,h1,_=>by simp at h1
 | [],_::_,_,_,_,h,_,_=>h.elim
 | _::_,[],_,_,_,h,_,_=>h.elim
theorem RoR.set {w:World}{g:Nat}{l:List Nat}:∀{gs:List Nat} {P:List (List Nat)} {i:Nat},RoR w gs P→Row w g 5 l∧l.length=512∧B8 l→RoR w (gs.set i g) (P.set i l)
 | [],[],_,_,_=>trivial
 | _::_,_::_,0,h,h2=>⟨h2,h.2⟩
 | _::_,_::_,i+1,h,h2=>⟨h.1,RoR.set (i:=i) h.2 h2⟩
 | [],_::_,_,h,_=>h.elim
 | _::_,[],_,h,_=>h.elim
theorem z5q:∀(gs:List Nat),Kv.row gs=gs.map (fun g=>Value.slice (some ⟨g,0,none⟩) 512 512)
 | []=>rfl
 | g::r=>by rw[Elt.row,z5q r];rfl
theorem y57 {w:World}{B g n c:Nat}{gs:List Nat}(j y:Nat)(h:w.ownsRow B SBT Kv.sz (.slice (some ⟨g,0,none⟩) n c) n (Kv.row gs)):
  (w.setCell ⟨g,j,none⟩ (.slice (some ⟨y,0,none⟩) 512 512)).ownsRow B SBT Kv.sz (.slice (some ⟨g,0,none⟩) n c) n (Kv.row (gs.set j y))∧(j<n→∃v,w.cell? ⟨g,j,none⟩=some v)∧w.frozen? ⟨g,j,none⟩=false∧B≤g∧∃A,w.heap[g]? =some (.cells A SBT (0,0)):=by
 rcases h.2 with ⟨h1,_⟩|⟨g',cap,cur,hv,hbg,hg,hnc,hcm,hcs,ht⟩
 ·cases h1
 ·simp only[Value.slice.injEq,Option.some.injEq,Addr.mk.injEq,and_true,true_and] at hv;obtain⟨rfl,rfl⟩:=hv;refine⟨⟨?_,.inr ⟨g,c,_,rfl,hbg,heap_setCell_same w g j cur SBT _ hg,hnc,hcm,by simpa using hcs,?_⟩⟩,fun hj=> ?_,by simp[World.frozen?,hg],hbg,cur,hg⟩
  ·have h1:=h.1;rw[Elt.row_len] at h1⊢
   rw[List.length_set];exact h1
  ·rw[z5q] at ht⊢
   rw[List.map_set,←ht];simp[List.take_set]
  ·have h1:j<cur.size:=by
    have e:Kv.sz=1:=rfl;rw[e,Nat.mul_one] at hcs;omega
   exact⟨cur[j],by simp[World.cell?,hg,h1]⟩
theorem y58 (a:Option Addr)(c:Nat)(gs:List Nat)(P:List (List Nat))(b:Option Addr)(d:Nat)(hs:List (Nat×Nat))(ws:List PgW)(w:World)(n m:Nat)(hg:gs.length=n)(hn:n≤2000)(h0:0<n)(hP:ES Kv w a gs)(hR:RoR w gs P)(hm:hs.length=m)(hm9:m≤100000)(hW:ES XT w b hs)(hWr:WRo w hs ws)(hp:∀x∈ws,2≤x.1∧x.1<n∧x.2.length=512∧B8 x.2):
  Calls prog 22 #[.slice a n c,.slice b m d] w fun e w'=>∃(u:Value) (gs':List Nat),e=.returned u∧w'.ownsRow w.heap.size SBT Kv.sz u n (Kv.row gs')∧RoR w' gs' (Dy P ws)∧zB w w':=by
 have HP:=zh hP;have HR:=zh hR;have HG:=zh hg;have HW:=zh (zai hm (zai hW (zai hWr hp)));clear hP hR hg hm hW hWr hp;obtain⟨W0,hW0⟩:∃W,w.alloc (.cells #[] SBT)=W:=⟨_,rfl⟩
 have hb0:zB w W0:=by rw[←hW0];exact(zbr _ _).alloc (zlr _) _
 have hl0:W0.heap.size=w.heap.size+1:=by rw[←hW0];simp
 have hown0:W0.ownsRow w.heap.size SBT Kv.sz (.slice (some ⟨w.heap.size,0,none⟩) 0 0) 0 (Kv.row []):=by
  rw[←hW0];exact⟨rfl,.inr ⟨w.heap.size,0,#[],rfl,zlr _,Y7 _ _ _,zlr _,Nat.zero_le _,rfl,rfl⟩⟩
 obtain⟨v1,w4,hrun,hb4,ht4,ho4⟩:=Ok (P:=prog) (E:=Kv) (w:=W0) w.heap.size 52 52 SBT underlying52 y7p _ 0 [] hown0 (by omega) a n c gs HG.out h0 (HP.out.below hb0 (zlr _)) (by unfold maxLen;omega) (by show _*24≤_;omega);rw[Nat.zero_add,List.nil_append] at ho4;have hB4:=hb0.trans hb4;have hro4:=HR.out.below hB4 (zlr _);obtain⟨g5,c5,rfl⟩:∃g5 c5,v1=.slice (some ⟨g5,0,none⟩) n c5:=by
  rcases ho4.2 with ⟨_,h2⟩|⟨g2,cap,cur,h1,_⟩
  ·omega
  ·exact⟨g2,cap,h1⟩
 have Hst:Hid (∃gs',w4.ownsRow w.heap.size SBT Kv.sz (.slice (some ⟨g5,0,none⟩) n c5) n (Kv.row gs')∧gs'.length=n∧RoR w4 gs' (Dy P (ws.take 0))∧zB w w4):=⟨gs,ho4,HG.out,by rw[List.take_zero];exact hro4,hB4⟩
 have HW0:=zh hW0;clear hW0 hb0 hl0 hown0 hb4 ht4 ho4 hB4 hro4;have hPn:P.length=n:=by rw[←HR.out.len];exact HG.out
 have HPn:=zh hPn;clear hPn
 go_enter func22,ntmps22
 go_wp2_with (at_builtin;rw[HW0.out];refine Lib.wpList_append_run _ rfl (.tmp 7) (.tmp 8) _ _ rfl _ _ (by rfl) (by rfl) _ _ hrun ?_)
 clear hrun
 go_loopw [6] (fun i wr=>∃k:Nat,i=.int .i64 k∧k≤m∧Hid (∃gs',wr.ownsRow w.heap.size SBT Kv.sz (.slice (some ⟨g5,0,none⟩) n c5) n (Kv.row gs')∧gs'.length=n∧RoR wr gs' (Dy P (ws.take k))∧zB w wr)) (fun i _=>m-(intOf i).toNat)
 case atStart=>exact⟨0,rfl,by omega,Hst⟩
 case round=>
  obtain⟨k,rfl,hk,hst⟩:=hrel
  by_cases hlt:k<m
  ·obtain⟨gs',hown,hgl,hror,hB⟩:=hst.out;have hown:wr.drew.ownsRow w.heap.size SBT Kv.sz (.slice (some ⟨g5,0,none⟩) n c5) n (Kv.row gs'):=hown;have hror:RoR wr.drew gs' (Dy P (ws.take k)):=RoR.mono (w:=wr) (w':=wr.drew) (fun _ _ h=>h) hror;have hB:zB w wr.drew:=hB.drew;have hkh:k<hs.length:=by rw[HW.out.1];exact hlt
   have hkw:k<ws.length:=by rw[←HW.out.2.2.1.len];exact hkh
   have e1:hs[k]? =some hs[k]:=List.getElem?_eq_getElem hkh;have e2:ws[k]? =some ws[k]:=List.getElem?_eq_getElem hkw;have hat:=(HW.out.2.2.1.mono (fun g l hr=>hr.below hB hr.lt)).at e1 e2;have hpp:=HW.out.2.2.2 _ (List.getElem_mem hkw);obtain⟨gl,ol,hbe,hty,hcell⟩:∃gl ol,b=some ⟨gl,ol,none⟩∧(∃A fz,wr.heap[gl]? =some (.cells A WRT fz))∧∀j u,(XT.row hs)[j]? =some u→wr.cell? ⟨gl,ol+j,none⟩=some u:=by
    rcases HW.out.2.1.below hB (zlr _) with ⟨_,h9⟩|⟨gl,ol,hbe,⟨A2,T2,fz2,ht2,hT2⟩,hcell⟩
    ·rw[h9] at hkh;simp at hkh
    ·have hT3:(T2==WRT)=true:=hT2;exact⟨gl,ol,hbe,⟨A2,fz2,by rw[←eq_of_beq hT3];exact ht2⟩,hcell⟩
   subst hbe;have r0:=hcell _ _ (XT.row_at hs k 0 _ e1 (by decide));have r1:=hcell _ _ (XT.row_at hs k 1 _ e1 (by decide));have r0':wr.cell? ⟨gl,ol+k*2,none⟩=some (.int .i64 (hs[k].1:Nat)):=r0;have r1':wr.cell? ⟨gl,ol+k*2+1,none⟩=some (.slice (some ⟨hs[k].2,0,none⟩) 512 512):=r1;have htk:ws.take (k+1)=ws.take k++[ws[k]]:=List.take_succ_eq_append_getElem hkw;have hlp:Dy P (ws.take (k+1))=(Dy P (ws.take k)).set hs[k].1 ws[k].2:=by rw[htk,z1e,hat.1]
   obtain⟨hset,hcl,hfz,hBg,A,hgA⟩:=y57 (w:=wr.drew) hs[k].1 hs[k].2 hown;have hpg:hs[k].1<n∧2≤hs[k].1:=by rw[hat.1];exact⟨hpp.2.1,hpp.1⟩
   obtain⟨u9,hcl⟩:=hcl hpg.1;have hB2:=hB.setCell (p:=⟨g5,hs[k].1,none⟩) hBg (.slice (some ⟨hs[k].2,0,none⟩) 512 512);have hT5:TyF wr.drew (fun i=>i=g5) SBT:=TyF.one hgA;have ht5:Zx (fun i=>i=g5) wr.drew (wr.drew.setCell ⟨g5,hs[k].1,none⟩ (.slice (some ⟨hs[k].2,0,none⟩) 512 512)):=(Zx.refl _ wr.drew).setCell (p:=⟨g5,hs[k].1,none⟩) _ (fun _=>rfl);have hrw:∀g l,Row wr.drew g 5 l→Row (wr.drew.setCell ⟨g5,hs[k].1,none⟩ (.slice (some ⟨hs[k].2,0,none⟩) 512 512)) g 5 l:=fun g l hr=>ht5.hg hr (hT5.not hr (by decide))
   have hror2:=(hror.mono hrw).set (i:=hs[k].1) ⟨hrw _ _ hat.2,hpp.2.2⟩;rw[←hlp] at hror2;have hglt:gl≠g5:=fun e=>by
    obtain⟨A2,fz2,h9⟩:=hty;have h9:wr.drew.heap[gl]? =some (.cells A2 WRT fz2):=h9;rw[e,hgA] at h9;injection h9 with h9
    injection h9 with _ h9 _
    exact absurd h9 (by decide)
   have Hst:Hid (∃gs',(wr.drew.setCell ⟨g5,hs[k].1,none⟩ (.slice (some ⟨hs[k].2,0,none⟩) 512 512)).ownsRow w.heap.size SBT Kv.sz (.slice (some ⟨g5,0,none⟩) n c5) n (Kv.row gs')∧gs'.length=n∧RoR (wr.drew.setCell ⟨g5,hs[k].1,none⟩ (.slice (some ⟨hs[k].2,0,none⟩) 512 512)) gs' (Dy P (ws.take (k+1)))∧zB w (wr.drew.setCell ⟨g5,hs[k].1,none⟩ (.slice (some ⟨hs[k].2,0,none⟩) 512 512))):=⟨_,hset,by rw[List.length_set];exact hgl,hror2,hB2⟩
   clear hst hown hgl hror hB e1 e2 hat hpp hcell hty r0 r1 htk hlp hset hBg hgA hB2 hT5 ht5 hrw hror2;generalize hs[k].1=PG at*;generalize hs[k].2=HB at*;clear hkh hkw;have d1:¬(PG:Int)<2:=by omega
   have d2:¬(n:Int)≤(PG:Int):=by omega
   go_wp2_with fail;refine rgs (F:=fun i=>i=g5) (.rd 0 (.rd 1 (.rd 2 (.rd 3 (.rd 4 (.rd 5 (.rd 6 (.rd 7 (.rd 8 (.rd 9 (.rd 10 (.rd 11 (.call 12 .done))))))))))))) (h:= ?_);have q0:∀w',Zx (fun i=>i=g5) wr.drew w'→w'.cell? ⟨gl,ol+k*2,none⟩=some (.int .i64 (PG:Nat)):=fun w' t=>by
    rw[t.cell (p:=⟨gl,ol+k*2,none⟩) (block_lt_of_cell r0') hglt];exact r0'
   have q1:∀w',Zx (fun i=>i=g5) wr.drew w'→w'.cell? ⟨gl,ol+k*2+1,none⟩=some (.slice (some ⟨HB,0,none⟩) 512 512):=fun w' t=>by
    rw[t.cell (p:=⟨gl,ol+k*2+1,none⟩) (block_lt_of_cell r1') hglt];exact r1'
   (refine gsr (v:= ?_) rfl (by rfl) ?_ ?_;rotate_left;(intro w' hw';go_simp;with_reducible rfl);simp only[Act.put,zs0,zs1,zs2])
   (refine gsr (v:= ?_) rfl (by rfl) ?_ ?_;rotate_left;(intro w' hw';go_simp;with_reducible rfl);simp only[Act.put,zs0,zs1,zs2])
   (refine gsr (v:= ?_) rfl (by rfl) ?_ ?_;rotate_left;(intro w' hw';go_simp;with_reducible rfl);simp only[Act.put,zs0,zs1,zs2])
   (refine gsr (v:= ?_) rfl (by rfl) ?_ ?_;rotate_left;(intro w' hw';go_simp;with_reducible rfl);simp only[Act.put,zs0,zs1,zs2])
   (refine gsr (v:= ?_) rfl (by rfl) ?_ ?_;rotate_left;(intro w' hw';go_simp;with_reducible rfl);simp only[Act.put,zs0,zs1,zs2])
   (refine gsr (v:= ?_) rfl (by rfl) ?_ ?_;rotate_left;(intro w' hw';go_simp;with_reducible rfl);simp only[Act.put,zs0,zs1,zs2])
   (refine gsr (v:= ?_) rfl (by rfl) ?_ ?_;rotate_left;(intro w' hw';go_simp;with_reducible rfl);simp only[Act.put,zs0,zs1,zs2])
   (refine gsr (v:= ?_) rfl (by rfl) ?_ ?_;rotate_left;(intro w' hw';go_simp;with_reducible rfl);simp only[Act.put,zs0,zs1,zs2])
   (refine gsr (v:= ?_) rfl (by rfl) ?_ ?_;rotate_left;(intro w' hw';go_simp;with_reducible rfl);simp only[Act.put,zs0,zs1,zs2])
   (refine gsr (v:= ?_) rfl (by rfl) ?_ ?_;rotate_left;(intro w' hw';go_simp;with_reducible rfl);simp only[Act.put,zs0,zs1,zs2])
   (refine gsr (v:= ?_) rfl (by rfl) ?_ ?_;rotate_left;(intro w' hw';go_simp;with_reducible rfl);simp only[Act.put,zs0,zs1,zs2])
   (refine gsr (v:= ?_) rfl (by rfl) ?_ ?_;rotate_left;(intro w' hw';go_simp;with_reducible rfl);simp only[Act.put,zs0,zs1,zs2])
   refine gsc rfl (by rfl) (fun K hK=> ?_);have hcl':wr.drew.cell? ⟨g5,PG,none⟩=some u9:=hcl;have hfz':wr.drew.frozen? ⟨g5,PG,none⟩=false:=hfz;go_simp;refine hK _ _ ((Zx.refl _ _).setCell (p:=⟨g5,PG,none⟩) _ (fun _=>rfl)) ?_;clear hK K q0 q1 hcl' hfz';refine Zy ?_;go_wp2_with fail
   go_roundw
   case rel=>exact⟨k+1,by go_num,by omega,Hst⟩
   case measure=>simp[intOf];omega
  ·obtain rfl:k=m:=by omega
   obtain⟨gs',hown,hgl,hror,hB⟩:=hst.out;have hwl:ws.length=k:=by rw[←HW.out.2.2.1.len];exact HW.out.1
   rw[List.take_of_length_le (by omega)] at hror;have Hfin:=zh (zai hown (zai hror hB));clear hst hown hgl hror hB hwl;go_wp2;go_ret;exact⟨_,gs',rfl,Hfin.out.1,Hfin.out.2.1,Hfin.out.2.2⟩
theorem x2k {P:List (List Nat)}{f:Nat}{o:RO}{s:ByteArray}{long:Int}:Ix P f o s 0 long=if (s.size:Int)=long then some (o,s) else none:=by
 cases f<;>(unfold Ix;rw[if_pos rfl])
theorem x0a {P:List (List Nat)}{f:Nat}{o:RO}{s:ByteArray}{page long:Int}(hp:page≠0)(h:T9 P o page=none):Ix P f o s page long=none:=by
 cases f with
 | zero=>unfold Ix;rw[if_neg hp]
 | succ f=>unfold Ix;rw[if_neg hp,h]
theorem y59 {P:List (List Nat)}{f:Nat}{o o1:RO}{s:ByteArray}{page long:Int}{k:Nat}{b:List Nat}(hp:page≠0)(h:T9 P o page=some (o1,k,b))(hb:Ru k b s long):Ix P f o s page long=none:=by
 cases f with
 | zero=>unfold Ix;rw[if_neg hp]
 | succ f=>unfold Ix;rw[if_neg hp,h];simp only;rw[if_pos hb]
theorem x0b {P:List (List Nat)}{f:Nat}{o o1:RO}{s:ByteArray}{page long:Int}{k:Nat}{b:List Nat}(hp:page≠0)(h:T9 P o page=some (o1,k,b))(hb:¬Ru k b s long):Ix P (f+1) o s page long=Ix P f o1 (s++dcV b) (dcN b) long:=by
 unfold Ix;rw[if_neg hp,h];simp only;rw[if_neg hb]
 cases f<;>rfl
theorem y6a (v:Value)(b:List Nat)(w:World)(hv:Sl w v b)(h8:B8 b)(hl:b.length≤504):
  Calls prog 112 #[v] w fun e w'=>e=.returned (.tuple #[.int .i64 (dcN b),.string (dcV b),.int .i64 (dcE b)])∧zB w w':=by
 obtain⟨a,c,rfl,hs,_,h1,h2⟩:=hv.arg;exact z0n a _ c b w rfl hs h1 (by omega) h2 h8
theorem y6b (b:List Nat)(h:b.length≤504):(dcV b).size≤504:=by
 unfold dcV;split
 ·rw[ZZ,zld];omega
 ·decide
set_option maxHeartbeats 4000000 in
theorem z7p (P:List (List Nat))(a:Option Addr)(c:Nat)(o:RO)(L:Value)(hL:IsS L)(gu:Nat)(page long:Int)(f:Nat)(w0 w:World)(hb0:zB w0 w)(hpg:x0r w0 a P)(hU:Blk w gu BLT (yl P.length o.u))(hgu:w0.heap.size≤gu)(hf:Vj o.u P.length≤f)(hl2:long≤100000):
  Calls prog 85 #[.agg (ov L (uv gu P.length) o.d false),.slice a P.length c,.int .i64 page,.int .i64 long] w fun e w'=>
   (
    (Ix P f o ByteArray.empty page long=none∧∃s,e=.returned (.tuple #[.agg (ov L (uv gu P.length) o.d true),.string s]))∨
    (∃o1 v,Ix P f o ByteArray.empty page long=some (o1,v)∧e=.returned (.tuple #[.agg (ov L (uv gu P.length) o.d false),.string v])∧Blk w' gu BLT (yl P.length o1.u)))∧Zx (fun x=>x=gu) w w':=by
 obtain⟨R,hR⟩:∃R,Ix P f o ByteArray.empty page long=R:=⟨_,rfl⟩
 obtain⟨n,hn⟩:∃n,P.length=n:=⟨_,rfl⟩
 have C0:=zh (fun(x:RO) (i:Int) (wx:World) (h1:zB w0 wx) (h2:Blk wx gu BLT (yl P.length x.u)) h3=>Ov P a c x L hL gu i w0 wx h1 hpg h2 hgu h3);have C1:=zh (fun(x:RO) (i:Int) (wx:World) (h1:zB w0 wx) (h2:Blk wx gu BLT (yl P.length x.u)) o1 k b h3=>Qx P a c x L hL gu i w0 wx h1 hpg h2 hgu o1 k b h3);have CD:=zh (fun(v:Value) (b:List Nat) (wx:World) (hv:Sl wx v b) (hb:B8 b) (hl:b.length≤504)=>y6a v b wx hv hb hl);have HR:=zh hR;rw[hR,hn];have oT:=fun b=>Jj hL gu n o.d b
 rw[hn] at hU hf C0 C1;obtain⟨U,hUv⟩:∃U,uv gu n=U:=⟨_,rfl⟩
 rw[hUv] at oT C0 C1⊢
 obtain⟨D,hD⟩:∃D,o.d=D:=⟨_,rfl⟩
 rw[hD] at oT⊢
 have HL:=zh hL;have HUs:Hid (IsS U):=by show IsS U;rw[←hUv];exact⟨_,_,_,rfl⟩
 have HU:=zh hU;have HB0:=zh hb0;have Hgu:=zh hgu;have Hn:=zh hn;have HD:=zh hD;have Hf:=zh hf;clear hb0 hpg hU hgu hn hUv hL hR hD hf
 go_enter func85,ntmps85
 go_wp2_with (first
  | (refine Zw rfl ROT (.tmp 0) rfl (ov L U D false) (by rfl) ?_;intro g4 w1 hg4 hk4 hb4)
  | (show wpList _ _ _ (⟨some 8,_,_,_,_,_⟩::_) _ _;refine Zv rfl ROT rfl Vx ?_;intro g8 w2 hg8 hk8 hb8))
 have K4:=zh (hk4.ext hb8);have K8:=zh hk8;have KU:=zh (HU.out.ext (hb4.trans (hb8.mono hb4.size)));have HT:Hid (Zx (fun x=>x=gu) w w2):=(x3x hb4).trans (x3x (hb8.mono (zlr _)));have N48:Hid (g4≠g8):=by show _≠_;have:=hk4.lt;omega
 have Z4:Hid (w.heap.size≤g4):=hg4;have Z8:Hid (w.heap.size≤g8):=by show _≤_;have:=hb4.size;omega
 clear hg4 hk4 hb4 hg8 hk8 hb8 HU
 go_loopg [2,10,11,12,13,14,15,16] f (fun gk pg sv _ _ _ _ _ _ wr=>∃(x:RO) (s:ByteArray) (q:Int),pg=.int .i64 q∧sv=.string s∧s.size≤200000∧Hid (Ix P gk x s q long=R)∧Hid (Vj x.u n≤gk)∧Hid (x.d=D)∧Hid (Blk wr g4 ROT (ov L U D false))∧Hid (Blk wr g8 ROT (ov Z0 Z0 0 false))∧Hid (Blk wr gu BLT (yl n x.u))∧Hid (Zx (fun y=>y=gu) w wr))
 case atStart=>exact⟨o,ByteArray.empty,page,rfl,rfl,by decide,HR,Hf,HD,K4,K8,KU,HT⟩
 case round=>
  clear K4 K8 KU HT HR Hf HD;obtain⟨x,s,q,rfl,rfl,hs,HR,Hf,HD,K4,K8,KU,HT⟩:=hrel
  by_cases hq:q=0
  ·subst hq;rw[x2k] at HR
   by_cases hsz:(s.size:Int)=long
   ·have d1:((s.size:Int) !=long)=false:=by rw[hsz];simp
    rw[if_pos hsz] at HR;clear hsz;have q3:=K4.out.o3
    go_wp2_with (first
     | (refine Zu rfl BLT (.tmp 77) (.tmp 76) rfl g4 3 (.bool false) (ov L U D false) ROT (Yu _) (by rfl) (by rfl) K4.out (by show 3<4;decide) ?_;intro w5 hk5 ht5;have J4:Hid (Blk w5 g4 ROT (ov L U D false)):=hk5;have J8:=zh (K8.out.turn ht5 (fun e=>N48.out e.symm));have JU:=zh (KU.out.turn ht5 (fun e=>(K4.out.ne KU.out (by decide)) e.symm));have T5:Hid (Zx (fun y=>y=gu) w w5):=HT.out.step ht5 (fun i hi hlt=>by subst hi;have:=Z4.out;omega);clear hk5 ht5 q3)
     | (show wpList _ _ _ (⟨some 78,_,_,_,_,_⟩::_) _ _;refine Zj rfl ROT (.tmp 4) rfl g4 0 (ov L U D false) (by rfl) Zk J4.out.at (Zq _ _ _ _) ?_)
     | (refine Zz rfl ROT (.tmp 8) (.tmp 78) rfl g8 (ov L U D false) _ ROT (by rfl) (by rfl) Zk J8.out (Zq _ _ _ _) (Zq _ _ _ _) (oT _) ?_;intro w9 hk9 ht9 hs9))
    refine bodyPost_ret (v:=.tuple #[.agg (ov L U D false),.string s]) ?_ rfl ?_
    ·exact U2 Zk rfl _ _ g8 _ _ (by rfl) (by rfl) hk9 (Zq _ _ _ _)
    ·exact⟨.inr ⟨x,s,HR.out.symm,rfl,JU.out.turn ht9 (fun e=>(J8.out.ne JU.out (by decide)) e.symm)⟩,T5.out.step ht9 (fun i hi hlt=>by subst hi;have:=Z8.out;omega)⟩
   ·have d1:((s.size:Int) !=long)=true:=by simp;exact hsz
    rw[if_neg hsz] at HR;clear hsz;have q3:=K4.out.o3
    go_wp2_with (first
     | (refine Zu rfl BLT (.tmp 77) (.tmp 76) rfl g4 3 (.bool true) (ov L U D false) ROT (Yu _) (by rfl) (by rfl) K4.out (by show 3<4;decide) ?_;intro w5 hk5 ht5;have J4:Hid (Blk w5 g4 ROT (ov L U D true)):=hk5;have J8:=zh (K8.out.turn ht5 (fun e=>N48.out e.symm));have JU:=zh (KU.out.turn ht5 (fun e=>(K4.out.ne KU.out (by decide)) e.symm));have T5:Hid (Zx (fun y=>y=gu) w w5):=HT.out.step ht5 (fun i hi hlt=>by subst hi;have:=Z4.out;omega);clear hk5 ht5 q3)
     | (show wpList _ _ _ (⟨some 78,_,_,_,_,_⟩::_) _ _;refine Zj rfl ROT (.tmp 4) rfl g4 0 (ov L U D true) (by rfl) Zk J4.out.at (Zq _ _ _ _) ?_)
     | (refine Zz rfl ROT (.tmp 8) (.tmp 78) rfl g8 (ov L U D true) _ ROT (by rfl) (by rfl) Zk J8.out (Zq _ _ _ _) (Zq _ _ _ _) (oT _) ?_;intro w9 hk9 ht9 hs9))
    have HN:Hid (R=none):=HR.out.symm;refine bodyPost_ret (v:=.tuple #[.agg (ov L U D true),.string s]) ?_ rfl ?_
    ·exact U2 Zk rfl _ _ g8 _ _ (by rfl) (by rfl) hk9 (Zq _ _ _ _)
    ·exact⟨.inl ⟨HN.out,_,rfl⟩,T5.out.step ht9 (fun i hi hlt=>by subst hi;have:=Z8.out;omega)⟩
  ·have dq:(q !=0)=true:=by simp;exact hq
   have q3:=K4.out.o3;have B1:=zh (HB0.out.trans (HT.out.below HB0.out.size (fun i hi=>by subst hi;exact Hgu.out)))
   cases ho:T9 P x q with
   | none=>
    have H1:=zh (C0.out x q wr B1.out KU.out ho);rw[HD.out] at H1;have HN:Hid (R=none):=by show _=_;rw[←HR.out];exact x0a hq ho
    clear ho HR hq
    go_wp2_with (show wpList _ _ _ (⟨some 25,_,_,_,_,_⟩::_) _ _;refine Zj rfl ROT (.tmp 4) rfl g4 0 (ov L U D false) (by rfl) Zk K4.out.at (Zq _ _ _ _) ?_)
    refine H1.out.mono ?_;rintro e w3 ⟨rfl,ht⟩;have M4:=zh (K4.out.turn ht (K4.out.ne KU.out (by decide)));have M8:=zh (K8.out.turn ht (K8.out.ne KU.out (by decide)));have MT:=zh (HT.out.trans ht);clear ht q3 H1 K4 K8 KU HT
    go_wp2_with (first
     | (show wpList _ _ _ (⟨some 11,_,_,_,_,_⟩::_) _ _;refine Zv rfl ROT rfl Vx ?_;intro g11 w4 hg11 hk11 hb11)
     | (refine Zz rfl ROT (.tmp 11) (.tmp 29) rfl g11 (ov L U D true) _ ROT (by rfl) (by rfl) Zk hk11 (Zq _ _ _ _) (Zq _ _ _ _) (oT _) ?_;intro w5 hk5 ht5 hs5;have bb:Ext w3 w5:=hb11.trans (ht5.below hb11.size (fun i hi=>by subst hi;exact hg11));have O11:=zh hk5;have O4:=zh (M4.out.ext bb);have O8:=zh (M8.out.ext bb);have OT:=zh (MT.out.trans (x3x bb));clear hg11 hk11 hb11 hk5 ht5 hs5)
     | (show wpList _ _ _ (⟨some 32,_,_,_,_,_⟩::_) _ _;refine Zj rfl ROT (.tmp 11) rfl g11 0 (ov L U D true) (by rfl) Zk O11.out.at (Zq _ _ _ _) ?_)
     | (refine Zz rfl ROT (.tmp 4) (.tmp 32) rfl g4 (ov L U D true) _ ROT (by rfl) (by rfl) Zk O4.out (Zq _ _ _ _) (Zq _ _ _ _) (oT _) ?_;intro w6 hk6 ht6 hs6;have Q4:=zh hk6;have Q8:=zh (O8.out.turn ht6 (fun e=>N48.out e.symm));have QT:=zh (OT.out.step ht6 (fun i hi hlt=>by subst hi;have:=Z4.out;omega));have q3:=hk6.o3;clear hk6 ht6 hs6 O4 O8 O11 OT)
     | (show wpList _ _ _ (⟨some 35,_,_,_,_,_⟩::_) _ _;refine Zj rfl ROT (.tmp 4) rfl g4 0 (ov L U D true) (by rfl) Zk Q4.out.at (Zq _ _ _ _) ?_)
     | (refine Zz rfl ROT (.tmp 8) (.tmp 35) rfl g8 (ov L U D true) _ ROT (by rfl) (by rfl) Zk Q8.out (Zq _ _ _ _) (Zq _ _ _ _) (oT _) ?_;intro w9 hk9 ht9 hs9;clear q3))
    refine bodyPost_ret (v:=.tuple #[.agg (ov L U D true),.string ⟨#[]⟩]) ?_ rfl ?_
    ·exact U2 Zk rfl _ _ g8 _ _ (by rfl) (by rfl) hk9 (Zq _ _ _ _)
    ·exact⟨.inl ⟨HN.out,_,rfl⟩,QT.out.step ht9 (fun i hi hlt=>by subst hi;have:=Z8.out;omega)⟩
   | some y=>
    obtain⟨x1,kd,b⟩:=y;obtain⟨k,rfl⟩:∃k,gk=k+1:=⟨gk-1,by have:=Sz P ho;have h1:=Hf.out;rw[Hn.out] at this;omega⟩
    have hfr:=Sz P ho;rw[Hn.out] at hfr;have Hf1:Hid (Vj x1.u n≤k):=by show _≤_;have:=Hf.out;omega
    have HD1:Hid (x1.d=D):=hfr.2.2.trans HD.out;have H1:=zh (C1.out x q wr B1.out KU.out x1 kd b ho);rw[HD.out] at H1;have hbl:b.length≤504:=by obtain⟨_,_,_,_,_,_,rfl⟩:=Rk P ho;exact XE _
    have Hbl:=zh hbl;have hv5:=y6b b hbl;have HY:Hid (¬Ru kd b s long→Ix P k x1 (s++dcV b) (dcN b) long=R):=fun h=>by rw[←HR.out,x0b hq ho h]
    have HN2:Hid (Ru kd b s long→R=none):=fun h=>by rw[←HR.out];exact y59 hq ho h
    have HPB:Hid (Ru kd b s long↔(kd≠3∨dcE b≠0∨long<(s++dcV b).size∨(dcN b≠0∧(dcV b).size<502))):=Iff.rfl;have hsz:(s++dcV b).size=s.size+(dcV b).size:=ByteArray.size_append;clear ho HR hq hfr hbl Hf HD
    go_wp2_with (show wpList _ _ _ (⟨some 25,_,_,_,_,_⟩::_) _ _;refine Zj rfl ROT (.tmp 4) rfl g4 0 (ov L U D false) (by rfl) Zk K4.out.at (Zq _ _ _ _) ?_)
    refine H1.out.mono ?_;rintro e w3 ⟨vl,rfl,hsv,hb8,hku,ht⟩;have M4:=zh (K4.out.turn ht (K4.out.ne KU.out (by decide)));have M8:=zh (K8.out.turn ht (K8.out.ne KU.out (by decide)));have MU:=zh hku;have MS:=zh hsv;have HB8:=zh hb8;have MT:=zh (HT.out.trans ht);clear ht q3 H1 K4 K8 KU HT hku hsv hb8
    go_wp2_with (first
     | (show wpList _ _ _ (⟨some 11,_,_,_,_,_⟩::_) _ _;refine Zv rfl ROT rfl Vx ?_;intro g11 w4 hg11 hk11 hb11)
     | (refine Zz rfl ROT (.tmp 11) (.tmp 29) rfl g11 (ov L U D false) _ ROT (by rfl) (by rfl) Zk hk11 (Zq _ _ _ _) (Zq _ _ _ _) (oT _) ?_;intro w5 hk5 ht5 hs5;have bb:Ext w3 w5:=hb11.trans (ht5.below hb11.size (fun i hi=>by subst hi;exact hg11));have O11:=zh hk5;have O4:=zh (M4.out.ext bb);have O8:=zh (M8.out.ext bb);have OU:=zh (MU.out.ext bb);have OS:=zh (MS.out.below bb (zlr _));have OT:=zh (MT.out.trans (x3x bb));clear hg11 hk11 hb11 hk5 ht5 hs5)
     | (show wpList _ _ _ (⟨some 32,_,_,_,_,_⟩::_) _ _;refine Zj rfl ROT (.tmp 11) rfl g11 0 (ov L U D false) (by rfl) Zk O11.out.at (Zq _ _ _ _) ?_)
     | (refine Zz rfl ROT (.tmp 4) (.tmp 32) rfl g4 (ov L U D false) _ ROT (by rfl) (by rfl) Zk O4.out (Zq _ _ _ _) (Zq _ _ _ _) (oT _) ?_;intro w6 hk6 ht6 hs6;have Q4:=zh hk6;have Q8:=zh (O8.out.turn ht6 (fun e=>N48.out e.symm));have QU:=zh (OU.out.turn ht6 (fun e=>(O4.out.ne OU.out (by decide)) e.symm));have QS:=zh (OS.out.turn ht6 (Qq O4.out HL.out HUs.out));have QT:=zh (OT.out.step ht6 (fun i hi hlt=>by subst hi;have:=Z4.out;omega));have q3:=hk6.o3;clear hk6 ht6 hs6 O4 O8 O11 OT))
    refine(CD.out vl b w6 QS.out HB8.out Hbl.out).mono ?_;rintro e w7 ⟨rfl,hb7⟩;have R4:=zh (Q4.out.ext hb7);have R8:=zh (Q8.out.ext hb7);have RU:=zh (QU.out.ext hb7);have RT:=zh (QT.out.trans (x3x hb7));have r3:=R4.out.o3;clear hb7 q3 Q4 Q8 QU QS QT M4 M8 MU MS MT;obtain⟨PV,hPV⟩:∃PV,dcV b=PV:=⟨_,rfl⟩
    obtain⟨NX,hNX⟩:∃NX,dcN b=NX:=⟨_,rfl⟩
    obtain⟨ER,hER⟩:∃ER,dcE b=ER:=⟨_,rfl⟩
    obtain⟨NV,hNV⟩:∃NV,s++PV=NV:=⟨_,rfl⟩
    rw[hPV] at HY HPB hsz hv5⊢
    rw[hNX] at HY HPB⊢
    rw[hER] at HPB⊢
    rw[hNV] at HY HPB hsz;have hadd:¬(9223372036854775807<s.size+PV.size):=by omega
    have hnv:NV.size≤s.size+504:=by omega
    clear hPV hNX hER hsz
    by_cases hk3:kd=3
    ·have d1:((kd:Int) !=3)=false:=by rw[hk3];rfl
     by_cases he0:ER=0
     ·have d2:(ER !=0)=false:=by rw[he0];rfl
      by_cases hln:long<(NV.size:Int)
      ·have d3:decide (long<(NV.size:Int))=true:=zdt hln;have HN:Hid (R=none):=HN2.out (HPB.out.2 (by omega));clear hk3 he0 hln;clear HY HPB HN2
       go_wp2_with (first
        | (refine Zu rfl BLT (.tmp 66) (.const (.bool true)) rfl g4 3 (.bool true) (ov L U D false) ROT (Yu _) (by rfl) (by rfl) R4.out (by show 3<4;decide) ?_;intro wa hka hta;have J4:Hid (Blk wa g4 ROT (ov L U D true)):=hka;have J8:=zh (R8.out.turn hta (fun e=>N48.out e.symm));have T5:Hid (Zx (fun y=>y=gu) w wa):=RT.out.step hta (fun i hi hlt=>by subst hi;have:=Z4.out;omega);clear hka hta r3)
        | (show wpList _ _ _ (⟨some 67,_,_,_,_,_⟩::_) _ _;refine Zj rfl ROT (.tmp 4) rfl g4 0 (ov L U D true) (by rfl) Zk J4.out.at (Zq _ _ _ _) ?_)
        | (refine Zz rfl ROT (.tmp 8) (.tmp 67) rfl g8 (ov L U D true) _ ROT (by rfl) (by rfl) Zk J8.out (Zq _ _ _ _) (Zq _ _ _ _) (oT _) ?_;intro w9 hk9 ht9 hs9))
       refine bodyPost_ret (v:=.tuple #[.agg (ov L U D true),.string ⟨#[]⟩]) ?_ rfl ?_
       ·exact U2 Zk rfl _ _ g8 _ _ (by rfl) (by rfl) hk9 (Zq _ _ _ _)
       ·exact⟨.inl ⟨HN.out,_,rfl⟩,T5.out.step ht9 (fun i hi hlt=>by subst hi;have:=Z8.out;omega)⟩
      ·have d3:decide (long<(NV.size:Int))=false:=zdf hln
       by_cases hnx:NX=0
       ·have d4:(NX !=0)=false:=by rw[hnx];rfl
        have HS2:Hid (Ix P k x1 NV NX long=R):=HY.out (fun h=>by have:=HPB.out.1 h;omega);have hle:NV.size≤200000:=by omega
        clear hnx HY HPB HN2 hk3 he0 hln;go_wp2
        go_roundg k
        case rel=>exact⟨x1,NV,NX,rfl,rfl,hle,HS2,Hf1,HD1,R4,R8,RU,RT⟩
        case measure=>omega
       ·have d4:(NX !=0)=true:=by simp;exact hnx
        by_cases hpv:PV.size<502
        ·have d5:decide ((PV.size:Int)<502)=true:=zdt (by omega);have d6:decide (PV.size<502)=true:=zdt hpv;have HN:Hid (R=none):=HN2.out (HPB.out.2 (by omega));clear hk3 he0 hln hnx hpv;clear HY HPB HN2
         go_wp2_with (first
          | (refine Zu rfl BLT (.tmp 66) (.const (.bool true)) rfl g4 3 (.bool true) (ov L U D false) ROT (Yu _) (by rfl) (by rfl) R4.out (by show 3<4;decide) ?_;intro wa hka hta;have J4:Hid (Blk wa g4 ROT (ov L U D true)):=hka;have J8:=zh (R8.out.turn hta (fun e=>N48.out e.symm));have T5:Hid (Zx (fun y=>y=gu) w wa):=RT.out.step hta (fun i hi hlt=>by subst hi;have:=Z4.out;omega);clear hka hta r3)
          | (show wpList _ _ _ (⟨some 67,_,_,_,_,_⟩::_) _ _;refine Zj rfl ROT (.tmp 4) rfl g4 0 (ov L U D true) (by rfl) Zk J4.out.at (Zq _ _ _ _) ?_)
          | (refine Zz rfl ROT (.tmp 8) (.tmp 67) rfl g8 (ov L U D true) _ ROT (by rfl) (by rfl) Zk J8.out (Zq _ _ _ _) (Zq _ _ _ _) (oT _) ?_;intro w9 hk9 ht9 hs9))
         refine bodyPost_ret (v:=.tuple #[.agg (ov L U D true),.string ⟨#[]⟩]) ?_ rfl ?_
         ·exact U2 Zk rfl _ _ g8 _ _ (by rfl) (by rfl) hk9 (Zq _ _ _ _)
         ·exact⟨.inl ⟨HN.out,_,rfl⟩,T5.out.step ht9 (fun i hi hlt=>by subst hi;have:=Z8.out;omega)⟩
        ·have d5:decide ((PV.size:Int)<502)=false:=zdf (by omega);have d6:decide (PV.size<502)=false:=zdf hpv;have HS2:Hid (Ix P k x1 NV NX long=R):=HY.out (fun h=>by have:=HPB.out.1 h;omega);have hle:NV.size≤200000:=by omega
         clear hnx hpv HY HPB HN2 hk3 he0 hln;go_wp2
         go_roundg k
         case rel=>exact⟨x1,NV,NX,rfl,rfl,hle,HS2,Hf1,HD1,R4,R8,RU,RT⟩
         case measure=>omega
     ·have d2:(ER !=0)=true:=by simp;exact he0
      have HN:Hid (R=none):=HN2.out (HPB.out.2 (by omega));clear hk3 he0;clear HY HPB HN2
      go_wp2_with (first
       | (refine Zu rfl BLT (.tmp 66) (.const (.bool true)) rfl g4 3 (.bool true) (ov L U D false) ROT (Yu _) (by rfl) (by rfl) R4.out (by show 3<4;decide) ?_;intro wa hka hta;have J4:Hid (Blk wa g4 ROT (ov L U D true)):=hka;have J8:=zh (R8.out.turn hta (fun e=>N48.out e.symm));have T5:Hid (Zx (fun y=>y=gu) w wa):=RT.out.step hta (fun i hi hlt=>by subst hi;have:=Z4.out;omega);clear hka hta r3)
       | (show wpList _ _ _ (⟨some 67,_,_,_,_,_⟩::_) _ _;refine Zj rfl ROT (.tmp 4) rfl g4 0 (ov L U D true) (by rfl) Zk J4.out.at (Zq _ _ _ _) ?_)
       | (refine Zz rfl ROT (.tmp 8) (.tmp 67) rfl g8 (ov L U D true) _ ROT (by rfl) (by rfl) Zk J8.out (Zq _ _ _ _) (Zq _ _ _ _) (oT _) ?_;intro w9 hk9 ht9 hs9))
      refine bodyPost_ret (v:=.tuple #[.agg (ov L U D true),.string ⟨#[]⟩]) ?_ rfl ?_
      ·exact U2 Zk rfl _ _ g8 _ _ (by rfl) (by rfl) hk9 (Zq _ _ _ _)
      ·exact⟨.inl ⟨HN.out,_,rfl⟩,T5.out.step ht9 (fun i hi hlt=>by subst hi;have:=Z8.out;omega)⟩
    ·have d1:((kd:Int) !=3)=true:=by simp;omega
     have HN:Hid (R=none):=HN2.out (HPB.out.2 (by omega));clear hk3;clear HY HPB HN2
     go_wp2_with (first
      | (refine Zu rfl BLT (.tmp 66) (.const (.bool true)) rfl g4 3 (.bool true) (ov L U D false) ROT (Yu _) (by rfl) (by rfl) R4.out (by show 3<4;decide) ?_;intro wa hka hta;have J4:Hid (Blk wa g4 ROT (ov L U D true)):=hka;have J8:=zh (R8.out.turn hta (fun e=>N48.out e.symm));have T5:Hid (Zx (fun y=>y=gu) w wa):=RT.out.step hta (fun i hi hlt=>by subst hi;have:=Z4.out;omega);clear hka hta r3)
      | (show wpList _ _ _ (⟨some 67,_,_,_,_,_⟩::_) _ _;refine Zj rfl ROT (.tmp 4) rfl g4 0 (ov L U D true) (by rfl) Zk J4.out.at (Zq _ _ _ _) ?_)
      | (refine Zz rfl ROT (.tmp 8) (.tmp 67) rfl g8 (ov L U D true) _ ROT (by rfl) (by rfl) Zk J8.out (Zq _ _ _ _) (Zq _ _ _ _) (oT _) ?_;intro w9 hk9 ht9 hs9))
     refine bodyPost_ret (v:=.tuple #[.agg (ov L U D true),.string ⟨#[]⟩]) ?_ rfl ?_
     ·exact U2 Zk rfl _ _ g8 _ _ (by rfl) (by rfl) hk9 (Zq _ _ _ _)
     ·exact⟨.inl ⟨HN.out,_,rfl⟩,T5.out.step ht9 (fun i hi hlt=>by subst hi;have:=Z8.out;omega)⟩
def QFT (B gu:Nat)(w:World)(x:Nat):Prop:=x=gu∨(B≤x∧∃cs fz,w.heap[x]? =some (.cells cs RET fz))
def KT (B gu:Nat)(w w':World):Prop:=Zx (QFT B gu w) w w'
theorem KT.trans {B gu:Nat}{a b c:World}(h:KT B gu a b)(k:KT B gu b c):KT B gu a c:=Zx.step h k (fun i hi hlt=>by
 by_cases hF:QFT B gu a i
 ·exact hF
 ·rcases hi with rfl|⟨hB,cs,fz,hc⟩
  ·exact .inl rfl
  ·exact .inr ⟨hB,cs,fz,by rw[←h.block i hlt hF];exact hc⟩)
theorem x4x {B gu:Nat}{a b:World}(t:Zx (fun x=>x=gu) a b):KT B gu a b:=t.mono (fun _ hi _=> .inl hi)
theorem x3y {B gu:Nat}{a b:World}(h:Ext a b):KT B gu a b:=x3x h
theorem KT.ext {B gu:Nat}{a b c:World}(h:KT B gu a b)(k:Ext b c):KT B gu a c:=h.trans (x3y k)
theorem KT.gu {B gu:Nat}{a b c:World}(h:KT B gu a b)(k:Zx (fun x=>x=gu) b c):KT B gu a c:=h.trans (x4x k)
theorem KT.mine {B gu g:Nat}{a b c:World}(h:KT B gu a b)(k:Zx (fun x=>x=g) b c)(hg:a.heap.size≤g):KT B gu a c:=Zx.step h k (fun _ hi hlt=>by subst hi;omega)
theorem KT.row {B gu:Nat}{a b c:World}{v:Value}{n:Nat}{xs:List Value}(h:KT B gu a b)(ho:b.ownsRow B RET 2 v n xs)(k:Zx (fun x=>v.ownBlock=some x) b c):KT B gu a c:=
 h.trans (k.mono (fun i hi _=>by
  rcases ho.2 with ⟨rfl,_⟩|⟨g,cap,cur,rfl,hB,hg,_⟩
  ·cases hi
  ·cases hi
   exact .inr ⟨hB,_,_,hg⟩))
theorem KT.size {B gu:Nat}{a b:World}(h:KT B gu a b):a.heap.size≤b.heap.size:=Zx.size h
theorem KT.blk {B gu:Nat}{a b:World}(h:KT B gu a b){g:Nat}{t:TypeId}{cs:Array Value}(hb:Blk a g t cs)(ht:t≠RET)(hg:g≠gu):Blk b g t cs:=Blk.turn hb h (fun hF=>by
 rcases hF with e|⟨_,ds,fz,hc⟩
 ·exact hg e
 ·have h1:a.heap[g]? =some (.cells cs t (0,0)):=hb;rw[h1] at hc
  cases hc
  exact ht rfl)
theorem KT.below {B gu:Nat}{a b:World}(h:KT B gu a b){C:Nat}(hC:C≤a.heap.size)(hB:C≤B)(hg:C≤gu):Below C a b:=Zx.below h hC (fun i hi=>by
 rcases hi with rfl|⟨h1,_⟩
 ·exact hg
 ·omega)
theorem KT.own {B gu:Nat}{a b:World}(h:KT B gu a b){C T sz n:Nat}{v:Value}{xs:List Value}(ho:a.ownsRow C T sz v n xs)(ht:T≠RET)(hg:∀cs,¬Blk a gu T cs):b.ownsRow C T sz v n xs:=by
 refine⟨ho.1,?_⟩
 rcases ho.2 with h1|⟨g,cap,cur,rfl,hB,hh,r⟩
 ·exact .inl h1
 ·exact .inr ⟨g,cap,cur,rfl,hB,h.blk (t:=T) (cs:=cur) hh ht (fun e=>by subst e;exact hg _ hh),r⟩
theorem Xk {w:World}{B T sz n:Nat}{v:Value}{xs:List Value}(h:w.ownsRow B T sz v n xs):IsS v:=by
 rcases h.2 with ⟨rfl,_⟩|⟨g,cap,cur,rfl,_⟩<;>exact⟨_,_,_,rfl⟩
theorem y6c {w w':World}{B n:Nat}{v:Value}{xs:List Value}{F:Nat→Prop}(h:w.ownsRow B RET 2 v n xs)(t:Zx F w w')(hF:∀x cs fz,w.heap[x]? =some (.cells cs RET fz)→¬F x):w'.ownsRow B RET 2 v n xs:=by
 refine⟨h.1,?_⟩
 rcases h.2 with h1|⟨g,cap,cur,rfl,hB,hg,r⟩
 ·exact .inl h1
 ·exact .inr ⟨g,cap,cur,rfl,hB,t.hg hg (hF g _ _ hg),r⟩
theorem Yw {w w':World}{B n g:Nat}{v:Value}{xs:List Value}{t:TypeId}{cs:Array Value}(h:w.ownsRow B RET 2 v n xs)(k:Zx (fun x=>x=g) w w')(hb:Blk w g t cs)(ht:t≠RET):w'.ownsRow B RET 2 v n xs:=
 y6c h k (fun x ds fz hx e=>by
  subst e;have h1:w.heap[x]? =some (.cells cs t (0,0)):=hb;rw[h1] at hx
  cases hx
  exact ht rfl)
theorem X3 {w w':World}{B T sz n:Nat}{v:Value}{xs:List Value}(h:w.ownsRow B T sz v n xs)(hb:Ext w w'):w'.ownsRow B T sz v n xs:=by
 refine⟨h.1,?_⟩
 rcases h.2 with h1|⟨g,cap,cur,rfl,hB,hg,r⟩
 ·exact .inl h1
 ·exact .inr ⟨g,cap,cur,rfl,hB,(hb.block g (zag.1 hg).1).trans hg,r⟩
theorem JO (W:World)(B:Nat)(v:Value)(n:Nat)(l:List En)(hown:W.ownsRow B RET 2 v n (Y9.row l))(hB:B≤W.heap.size)(g:Nat)(e:En)(hlit:ES Y9 W (some ⟨g,0,none⟩) [e])(hn:n≤1000000):
  ∃v' w',(Builtin.append_ #[My,My] My #[v,.slice (some ⟨g,0,none⟩) 1 1]).run prog W=.ok v' w'∧w'.ownsRow B RET 2 v' (n+1) (Y9.row (l++[e]))∧Zx (fun x=>v.ownBlock=some x) W w':=by
 obtain⟨i0,hi,hz,hs0,hby⟩:=info_parts z0a;obtain⟨g9,o9,h9,hc9⟩:=hlit.at (by simp);obtain⟨rfl,rfl⟩:g=g9∧0=o9:=by
  injection h9 with h9
  injection h9 with h10 h11
  exact⟨h10,h11⟩
 obtain⟨v2,w3,hrun,ho3,hg3,_⟩:=run_append_own (P:=prog) W B My My RET i0 Y9.zero Y9.sz Y9.by_ underlying29 hi hz hs0 hby Y9.zc Y9.pos v n (Y9.row l) hown ⟨g,0,none⟩ 1 1 (Y9.row [e]) (by rw[Y9.row_len];rfl) (fun j u hu=>by rw[U9];exact hc9 j u hu) (Y9.row_one _) (by unfold maxLen;omega) (by show _*32≤_;omega) hB;refine⟨v2,w3,hrun,by rw[Y9.row_app];exact ho3,?_⟩
 cases hv:v.ownBlock with
 | none=>rw[hv] at hg3;exact(Zx.refl _ W).grown hg3 (fun k hk=>by cases hk)
 | some b=>rw[hv] at hg3;exact(x3z hg3).mono (fun i hi _=>by rw[hi])
end Go.Proofs.YtdgladhfibfdlaaGreatDoor
