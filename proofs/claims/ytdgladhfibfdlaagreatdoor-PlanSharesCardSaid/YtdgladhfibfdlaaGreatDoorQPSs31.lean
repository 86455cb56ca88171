/-
  Steps.
-/
import Derived.Test.YtdgladhfibfdlaaGreatDoorQPSs30
namespace Go.Proofs.YtdgladhfibfdlaaGreatDoor
open Go Go.RowKit Go.Proofs.Tryz
set_option maxRecDepth 100000
theorem y2l {w:World}{B:Nat}{v:Value}{ks:List ByteArray}(h:w.ownsRow B STY 1 v ks.length (sv ks)):∃a n c,v=.slice a n c:=by
 obtain⟨a,c,e,_⟩:=H9 h;exact⟨a,_,c,e⟩
theorem y52 (W:World)(v:Value)(T:TypeId):(W.alloc (.cells #[v] T)).cell? ⟨W.heap.size,0,none⟩=some v:=by simp
theorem y2m {w:World}{B:Nat}{v:Value}{is:List Int}(h:w.ownsRow B ITY 1 v is.length (iv is)):∃a n c,v=.slice a n c:=by
 obtain⟨a,c,e,_⟩:=Q5 h;exact⟨a,_,c,e⟩
def xF (W:World)(B:Nat)(x:Int)(p q:Nat)(wz:World):Prop:=PB wz p RFK zF (.slice (some ⟨q,0,none⟩) 1 1)∧wz.ownsRow B ITY 1 (.slice (some ⟨q,0,none⟩) 1 1) 1 (iv [x])∧zB W wz∧B<p
theorem y53 (W:World)(B:Nat)(x:Int)(w2:World)(h:w2=(W.alloc (.cells #[.int .i64 x] ITY)).alloc (.cells #[zF,zF] RFK))(hB:B<W.heap.size):
  PB w2 (W.heap.size+1) RFK zF zF∧xF W B x (W.heap.size+1) W.heap.size ((w2.setCell ⟨W.heap.size+1,0,none⟩ zF).setCell ⟨W.heap.size+1,1,none⟩ (.slice (some ⟨W.heap.size,0,none⟩) 1 1)):=by
 have e1:(W.alloc (.cells #[.int .i64 x] ITY)).heap.size=W.heap.size+1:=by simp
 have k2:PB w2 (W.heap.size+1) RFK zF zF:=by rw[h,←e1];exact PB.new _ _ _ _
 have ba:zB W (W.alloc (.cells #[.int .i64 x] ITY)):=(zbr _ _).alloc (zlr _) _;have bb:Below (W.alloc (.cells #[.int .i64 x] ITY)).heap.size (W.alloc (.cells #[.int .i64 x] ITY)) w2:=by rw[h];exact(zbr _ _).alloc (zlr _) _
 have o2:w2.ownsRow B ITY 1 (.slice (some ⟨W.heap.size,0,none⟩) 1 1) 1 (iv [x]):=Y4 (z5m W B x (by omega)) bb (zlr _);have ts:=Y2 w2 (W.heap.size+1) zF (.slice (some ⟨W.heap.size,0,none⟩) 1 1);refine⟨k2,(k2.set0 _).set1 _,V3 o2 ts (fun i hi e=>Xz o2 k2 (by decide) i hi e),?_,by omega⟩;exact((ba.trans (bb.mono ba.size)).setCell (p:=⟨W.heap.size+1,0,none⟩) (by show W.heap.size≤W.heap.size+1;omega) _).setCell (p:=⟨W.heap.size+1,1,none⟩) (by show W.heap.size≤W.heap.size+1;omega) _
theorem y54 (W:World)(B:Nat)(x:Int)(w2:World)(h:w2=(W.alloc (.cells #[zF,zF] RFK)).alloc (.cells #[.int .i64 x] ITY))(hB:B<W.heap.size):
  PB w2 W.heap.size RFK zF zF∧xF W B x W.heap.size (W.heap.size+1) ((w2.setCell ⟨W.heap.size,0,none⟩ zF).setCell ⟨W.heap.size,1,none⟩ (.slice (some ⟨W.heap.size+1,0,none⟩) 1 1)):=by
 have e1:(W.alloc (.cells #[zF,zF] RFK)).heap.size=W.heap.size+1:=by simp
 have ba:zB W (W.alloc (.cells #[zF,zF] RFK)):=(zbr _ _).alloc (zlr _) _;have bb:Below (W.alloc (.cells #[zF,zF] RFK)).heap.size (W.alloc (.cells #[zF,zF] RFK)) w2:=by rw[h];exact(zbr _ _).alloc (zlr _) _
 have k2:PB w2 W.heap.size RFK zF zF:=(PB.new W RFK zF zF).ext bb;have o2:w2.ownsRow B ITY 1 (.slice (some ⟨W.heap.size+1,0,none⟩) 1 1) 1 (iv [x]):=by
  rw[h,←e1];exact z5m _ B x (by omega)
 have ts:=Y2 w2 W.heap.size zF (.slice (some ⟨W.heap.size+1,0,none⟩) 1 1);refine⟨k2,(k2.set0 _).set1 _,V3 o2 ts (fun i hi e=>Xz o2 k2 (by decide) i hi e),?_,by omega⟩;exact((ba.trans (bb.mono ba.size)).setCell (p:=⟨W.heap.size,0,none⟩) (zlr _) _).setCell (p:=⟨W.heap.size,1,none⟩) (zlr _) _
set_option maxHeartbeats 8000000 in
theorem QK (a:Option Addr)(n c:Nat)(l:List Nat)(w:World)(hn:l.length=n)(hs:Src w a l)(hnc:n≤c)(hcm:c≤maxLen)(hl:n≤65536)(hb8:B8 l):
  Calls prog 87 #[.slice a n c] w fun e w'=>∃u v,e=.returned (.tuple #[.agg #[u,v],.int .i64 (z15 l:Nat)])∧w'.ownsRow w.heap.size STY 1 u (jI l).length (sv (jI l))∧w'.ownsRow w.heap.size ITY 1 v (jJ l).length (iv (jJ l))∧zB w w':=by
 have Hn:=zh hn;obtain⟨w0,hw0⟩:∃w0,w0=w.alloc (.cells #[zF,zF] RFK):=⟨_,rfl⟩
 have hb0:Hid (zB w w0):=by rw[hw0];exact(zbr _ _).alloc (zlr _) _
 have hres:Hid (PB w0 w.heap.size RFK zF zF):=by rw[hw0];exact PB.new _ _ _ _
 have hsz0:Hid (w0.heap.size=w.heap.size+1):=by show _=_;rw[hw0];simp
 have hw0':=zh hw0.symm;have Hs:=zh (zai hs (zai hnc hcm));have H8:=zh hb8;clear hs hnc hcm hn hb8 hw0
 by_cases hout:504<n∨n<2
 ·have hd:=zh (YS (jH (l:=l) (by rw[Hn.out];exact hout)));have hfin:Hid (zB w (w.alloc (.cells #[zF,zF] RFK))):=by show Below _ _ _;rw[hw0'.out];exact hb0.out
  clear hw0' hb0 hres hsz0
  by_cases h2:n<2
  ·have d1:decide ((n:Int)<2)=true:=zdt (by omega);have d1':decide (n<2)=true:=zdt h2
   go_enter func87,ntmps87
   go_wp2;refine bodyPost_ret (v:=.tuple #[.agg #[zF,zF],.int .i64 3]) (by rw[results_cell_tmp rfl];go_simp) rfl ⟨zF,zF,by rw[hd.out.2.2];rfl,by rw[hd.out.1];exact World.ownsRow_nil _ _ _ _,by rw[hd.out.2.1];exact World.ownsRow_nil _ _ _ _,hfin.out⟩
  ·have d1:decide ((n:Int)<2)=false:=zdf (by omega);have d1':decide (n<2)=false:=zdf h2;have d2:decide (504<(n:Int))=true:=zdt (by omega);have d2':decide (504<n)=true:=zdt (by omega)
   go_enter func87,ntmps87
   go_wp2;refine bodyPost_ret (v:=.tuple #[.agg #[zF,zF],.int .i64 3]) (by rw[results_cell_tmp rfl];go_simp) rfl ⟨zF,zF,by rw[hd.out.2.2];rfl,by rw[hd.out.1];exact World.ownsRow_nil _ _ _ _,by rw[hd.out.2.1];exact World.ownsRow_nil _ _ _ _,hfin.out⟩
 have hn2:2≤n:=by omega
 have hn504:n≤504:=by omega
 have d1:decide ((n:Int)<2)=false:=zdf (by omega);have d1':decide (n<2)=false:=zdf (by omega);have d2:decide (504<(n:Int))=false:=zdf (by omega);have d2':decide (504<n)=false:=zdf (by omega);obtain⟨g,o,rfl,hcs⟩:=Hs.out.1 (by rw[Hn.out];omega);have hg:Hid (g<w.heap.size):=hcs.lt (by rw[Hn.out];omega);have Hcs:=zh hcs;have hx0:=hcs 0 (by rw[Hn.out];omega);have hx1:=hcs 1 (by rw[Hn.out];omega);rw[Nat.add_zero] at hx0;have hX0:=H8.out.get 0;have hX1:=H8.out.get 1;have hst:=zh (y17 l);rw[z5f false (by rw[Hn.out];exact hn2)] at hst;dsimp only at hst;have hrd:=zh (fun ks is L=>y51 (l:=l) (ks:=ks) (is:=is) (L:=L));have hend:=zh (fun ks is S=>y94 (l:=l) (ks:=ks) (is:=is) (S:=S));generalize l.getD 0 0=X0 at*;generalize l.getD 1 0=X1 at*;have r1:∀w',Zx (fun i=>w.heap.size≤i) w0.drew w'→w'.cell? ⟨g,o,none⟩=some (.int .u8 X0):=fun w' t=>by
  rw[t.cell (p:=⟨g,o,none⟩) (Nat.lt_of_lt_of_le hg.out hb0.out.size) (Nat.not_le.2 hg.out),hb0.out.drew.cell (p:=⟨g,o,none⟩) hg.out];exact hx0
 have r2:∀w',Zx (fun i=>w.heap.size≤i) w0.drew w'→w'.cell? ⟨g,o+1,none⟩=some (.int .u8 X1):=fun w' t=>by
  rw[t.cell (p:=⟨g,o+1,none⟩) (Nat.lt_of_lt_of_le hg.out hb0.out.size) (Nat.not_le.2 hg.out),hb0.out.drew.cell (p:=⟨g,o+1,none⟩) hg.out];exact hx1
 have y1:(0:Int)<(n:Int):=by omega
 have y2:(1:Int)<(n:Int):=by omega
 have y3:IntKind.i64.wrap (X0:Int)=(X0:Int):=by rw[IntKind.wrap_i64];omega
 have y4:IntKind.i64.wrap (X1:Int)=(X1:Int):=by rw[IntKind.wrap_i64];omega
 have y5:0<n:=by omega
 have y6:1<n:=by omega
 obtain⟨P1,hP1⟩:∃P1:Nat,P1=256*X0:=⟨_,rfl⟩
 obtain⟨P2,hP2⟩:∃P2:Nat,P2=X0*256+X1:=⟨_,rfl⟩
 have y7:IntKind.i64.wrap (256*(X0:Int))=(P1:Int):=by rw[IntKind.wrap_i64];omega
 have y8:IntKind.i64.wrap ((P1:Int)+(X1:Int))=(P2:Int):=by rw[IntKind.wrap_i64];omega
 rw[←hP2] at hst;clear hP1 hP2 hx0 hx1 hX0 hX1 hcs hout
 go_enter func87,ntmps87
 go_wp2_with fail;refine D7 (fun i=>w.heap.size≤i) (.rd 0 (.rd 1 (.rd 2 (.rd 3 (.rd 4 (.rd 5 (.rd 6 (.rd 7 (.rd 8 (.rd 9 (.two 10 (.rd 11 (.call 12 (.call 13 .done))) 12 (.call 10 (.rd 11 (.call 13 .done)))))))))))))) (by kernel_rfl) (by kernel_rfl) (by kernel_rfl) (by kernel_rfl) (fun _ _ _ _ _ h=>h) ?_;rw[hw0'.out];iterate 10 (refine Mu (o:=⟨_,_,_,_,_,_⟩) (v:= ?_) rfl (by rfl) ?_ ?_;rotate_left;(intro w' hw';go_simp;with_reducible rfl);simp only[Act.put,zs0,zs1,zs2])
 clear r1 r2 y1 y2 y3 y4 y5 y6 y7 y8;apply x0t
 case h=>
  intro share_k;refine⟨?_,?_⟩
  ·refine Vk (o:=⟨_,_,_,_,_,_⟩) rfl (by rfl) (fun K hK=> ?_);go_simp;refine hK (fun i=>w.heap.size≤i) (fun _ h _=>h) _ _ (Kz w0.drew _ _) ?_;clear hK K;iterate 1 (refine Mu (o:=⟨_,_,_,_,_,_⟩) (v:= ?_) rfl (by rfl) ?_ ?_;rotate_left;(intro w' hw';go_simp;with_reducible rfl);simp only[Act.put,zs0,zs1,zs2])
   refine Vk (o:=⟨_,_,_,_,_,_⟩) rfl (by rfl) (fun K hK=> ?_);go_simp;refine hK (fun i=>w.heap.size≤i) (fun _ h _=>h) _ _ (Kz (w0.drew.alloc (.cells #[.int .i64 (P2:Int)] ITY)) _ _) ?_;clear hK K;obtain⟨w2,hw2⟩:∃x,x=(w0.drew.alloc (.cells #[.int .i64 (P2:Int)] ITY)).alloc (.cells #[zF,zF] RFK):=⟨_,rfl⟩
   have hfk:=zh (y53 w0.drew w.heap.size (P2:Int) w2 hw2 (Nat.lt_of_lt_of_eq (Nat.lt_succ_self _) hsz0.out.symm));show qC _ _ _ _ _ _ ((w0.drew.alloc (.cells #[.int .i64 (P2:Int)] ITY)).alloc (.cells #[zF,zF] RFK));rw[←hw2];clear hw2;have z0:w2.cell? ⟨w0.heap.size+1,0,none⟩=some zF:=hfk.out.1.c0;have z1:w2.cell? ⟨w0.heap.size+1,1,none⟩=some zF:=hfk.out.1.c1;have f0:w2.frozen? ⟨w0.heap.size+1,0,none⟩=false:=hfk.out.1.fz 0;have f1:w2.frozen? ⟨w0.heap.size+1,1,none⟩=false:=hfk.out.1.fz 1;refine Vk (o:=⟨_,_,_,_,_,_⟩) rfl (by rfl) (fun K hK=> ?_);go_simp;refine hK (fun i=>w.heap.size≤i) (fun _ h _=>h) _ _ ((Y2 w2 (w0.heap.size+1) zF (.slice (some ⟨w0.heap.size,0,none⟩) 1 1)).mono (fun i h _=>h▸Nat.le_trans (Nat.le_succ _) (Nat.le_trans (Nat.le_of_eq hsz0.out.symm) (Nat.le_succ _)))) ?_;clear hK K z0 z1 f0 f1;obtain⟨wz,hwz⟩:∃x,x=(w2.setCell ⟨w0.heap.size+1,0,none⟩ zF).setCell ⟨w0.heap.size+1,1,none⟩ (.slice (some ⟨w0.heap.size,0,none⟩) 1 1):=⟨_,rfl⟩
   have Hz:Hid (xF w0.drew w.heap.size (P2:Int) (w0.heap.size+1) w0.heap.size wz):=by rw[hwz];exact hfk.out.2
   show qC _ _ _ _ _ _ ((w2.setCell ⟨w0.heap.size+1,0,none⟩ zF).setCell ⟨w0.heap.size+1,1,none⟩ (.slice (some ⟨w0.heap.size,0,none⟩) 1 1));rw[←hwz];clear hwz hfk;refine ZU ?_;obtain⟨p,hp⟩:∃p,p=w0.heap.size+1:=⟨_,rfl⟩
   rw[←hp] at Hz⊢
   clear hp;obtain⟨q,hq⟩:∃q,q=w0.heap.size:=⟨_,rfl⟩
   rw[←hq] at Hz⊢
   clear hq
   revert Hz
   revert wz
   revert q
   revert p
   exact share_k
  ·refine Vk (o:=⟨_,_,_,_,_,_⟩) rfl (by rfl) (fun K hK=> ?_);go_simp;refine hK (fun i=>w.heap.size≤i) (fun _ h _=>h) _ _ (Kz w0.drew _ _) ?_;clear hK K;refine Vk (o:=⟨_,_,_,_,_,_⟩) rfl (by rfl) (fun K hK=> ?_);go_simp;refine hK (fun i=>w.heap.size≤i) (fun _ h _=>h) _ _ (Kz (w0.drew.alloc (.cells #[zF,zF] RFK)) _ _) ?_;clear hK K;iterate 1 (refine Mu (o:=⟨_,_,_,_,_,_⟩) (v:= ?_) rfl (by rfl) ?_ ?_;rotate_left;(intro w' hw';go_simp;with_reducible rfl);simp only[Act.put,zs0,zs1,zs2])
   obtain⟨w2,hw2⟩:∃x,x=(w0.drew.alloc (.cells #[zF,zF] RFK)).alloc (.cells #[.int .i64 (P2:Int)] ITY):=⟨_,rfl⟩
   have hfk:=zh (y54 w0.drew w.heap.size (P2:Int) w2 hw2 (Nat.lt_of_lt_of_eq (Nat.lt_succ_self _) hsz0.out.symm));show qC _ _ _ _ _ _ ((w0.drew.alloc (.cells #[zF,zF] RFK)).alloc (.cells #[.int .i64 (P2:Int)] ITY));rw[←hw2];clear hw2;have z0:w2.cell? ⟨w0.heap.size,0,none⟩=some zF:=hfk.out.1.c0;have z1:w2.cell? ⟨w0.heap.size,1,none⟩=some zF:=hfk.out.1.c1;have f0:w2.frozen? ⟨w0.heap.size,0,none⟩=false:=hfk.out.1.fz 0;have f1:w2.frozen? ⟨w0.heap.size,1,none⟩=false:=hfk.out.1.fz 1;refine Vk (o:=⟨_,_,_,_,_,_⟩) rfl (by rfl) (fun K hK=> ?_);go_simp;refine hK (fun i=>w.heap.size≤i) (fun _ h _=>h) _ _ ((Y2 w2 w0.heap.size zF (.slice (some ⟨w0.heap.size+1,0,none⟩) 1 1)).mono (fun i h _=>h▸Nat.le_trans (Nat.le_succ _) (Nat.le_of_eq hsz0.out.symm))) ?_;clear hK K z0 z1 f0 f1;obtain⟨wz,hwz⟩:∃x,x=(w2.setCell ⟨w0.heap.size,0,none⟩ zF).setCell ⟨w0.heap.size,1,none⟩ (.slice (some ⟨w0.heap.size+1,0,none⟩) 1 1):=⟨_,rfl⟩
   have Hz:Hid (xF w0.drew w.heap.size (P2:Int) w0.heap.size (w0.heap.size+1) wz):=by rw[hwz];exact hfk.out.2
   show qC _ _ _ _ _ _ ((w2.setCell ⟨w0.heap.size,0,none⟩ zF).setCell ⟨w0.heap.size,1,none⟩ (.slice (some ⟨w0.heap.size+1,0,none⟩) 1 1));rw[←hwz];clear hwz hfk;refine ZU ?_;obtain⟨q,hq⟩:∃q,q=w0.heap.size+1:=⟨_,rfl⟩
   rw[←hq] at Hz⊢
   clear hq;obtain⟨p,hp⟩:∃p,p=w0.heap.size:=⟨_,rfl⟩
   rw[←hp] at Hz⊢
   clear hp
   revert Hz
   revert wz
   revert q
   revert p
   exact share_k
 case k=>
  intro p q wz Hz;have hwz:Hid (zB w0 wz):=((zbr w0.heap.size w0).drew).trans (Hz.out.2.2.1.mono (zlr _));have hBz:Hid (zB w wz):=hb0.out.trans (hwz.out.mono hb0.out.size);have hrz:Hid (PB wz w.heap.size RFK zF zF):=hres.out.ext hwz.out;have hlz:=zh (JK Hz.out.2.1);clear hwz hres hb0 hw0' hsz0;have hl2:Hid ((l.drop 2).length=n-2):=by show _=_;rw[zld,Hn.out]
  have hnc2:2≤c:=by have:=Hs.out.2.1;omega
  go_upto_region 4 with fail
  go_cut [5] (fun s5 wx=>∃(rb:Nat) (ar:Option Addr) (nr cr:Nat),s5=.pointer (some ⟨rb,0,none⟩)∧Hid (wz.heap.size≤rb)∧Hid (nr=n-2)∧Hid (RSB wx rb RFT (.slice ar nr cr) false)∧Hid (Sl wx (.slice ar nr cr) (l.drop 2))∧Hid (Lo (.slice ar nr cr) w.heap.size)∧Hid (zB wz wx))
  case first=>
   have hcz:Cs wz g o l:=Hcs.out.below hBz.out hg.out;have hnw:∀x:Obj,zB wz (wz.alloc x):=fun x=>(zbr _ _).alloc (zlr _) x
   have htw:=zh (fun x=>y7o (hcz.below (hnw x) (Nat.lt_of_lt_of_le hg.out hBz.out.size)) Hn.out hn2 Hs.out.2.1 Hs.out.2.2 hg.out);have Hnw:=zh hnw;have hcm2:c≤9223372036854775807:=by have:=Hs.out.2.2;unfold maxLen at this;omega
   have hni:(2:Int)≤(n:Int):=by omega
   have hci:(n:Int)≤(c:Int):=by have:=Hs.out.2.1;omega
   have hcc:(2:Int)≤(c:Int):=by omega
   clear hcz hnw
   rcases zng 2 c with hkc|hkc
   ·have y1:¬(c=2):=by omega
    go_wp2;go_meet;exact⟨wz.heap.size,some ⟨g,o+2,none⟩,n-2,c-2,rfl,zlr _,rfl,RSB.new _ _ _ _,((htw.out _).1 hkc).1,((htw.out (.cells #[] ITY)).1 hkc).2,Hnw.out _⟩
   ·obtain rfl:c=2:=by omega
    have hn22:n=2:=((htw.out (.cells #[] ITY)).2 rfl).2.1;subst hn22;go_wp2;go_meet;exact⟨wz.heap.size,some ⟨g,o,none⟩,0,0,rfl,zlr _,rfl,RSB.new _ _ _ _,((htw.out _).2 trivial).1,((htw.out (.cells #[] ITY)).2 trivial).2.2,Hnw.out _⟩
  case rest=>
   obtain⟨rb,ar,nr,cr,rfl,hrb,hnr,hsb,hslr,hlor,hwc⟩:=hcut;have hI0:Hid (RfI w wc rb p [] [(P2:Int)] (.slice ar nr cr) zF (.slice (some ⟨q,0,none⟩) 1 1)):=
    ⟨hsb.out,Hz.out.1.ext hwc.out,World.ownsRow_nil _ _ _ _,Y4 Hz.out.2.1 hwc.out (zlr _),hrz.out.ext hwc.out,hBz.out.trans (hwc.out.mono hBz.out.size),Hz.out.2.2.2,znt hBz.out.size hrb.out⟩
   have hR0:Hid (RfB wc (.agg #[.slice ar nr cr,.bool false]) w.heap.size ⟨l.drop 2,false⟩):=
    ⟨⟨_,rfl,hslr.out,hlor.out⟩,H8.out.drop 2,(by show(l.drop 2).length≤_;rw[hl2.out];omega),fun h=>by cases h⟩
   clear hrb hsb hslr hlor hwc Hz hBz hrz hlz;go_wp2_with fail
   go_loopg [6,7] (n-2) (fun k _ _ wr=>∃(ks:List ByteArray) (is:List Int) (L:List Nat) (ar:Option Addr) (cr:Nat) (u v:Value),Hid (L.length=k)∧k+ks.length≤504∧is.length=ks.length+1∧Hid (StF l ks is ⟨L,false⟩)∧Hid (RfI w wr rb p ks is (.slice ar k cr) u v)∧Hid (RfB wr (.agg #[.slice ar k cr,.bool false]) w.heap.size ⟨L,false⟩))
   case atStart=>
    have e:=hnr.out;exact⟨[],[(P2:Int)],l.drop 2,ar,cr,_,_,hl2,by simp;omega,rfl,hst,by rw[←e];exact hI0,by rw[←e];exact hR0⟩
   case round=>
    clear hI0 hR0 hnr hst;obtain⟨ks,is,L,ar,cr,u,v,hk,hkn,hin,hS,hI,hR⟩:=hrel;have s0:=hI.out.sb.c0;have s1:=hI.out.sb.c1
    by_cases h0:0<gk
    ·have e0:decide (0<(gk:Int))=true:=zdt (by omega);have e0':decide (0<gk)=true:=zdt h0;have hne:Hid (L≠[]):=fun e=>by have:=hk.out;rw[e] at this;simp at this;omega
     have hrd2:=zh (hrd.out ks is L hS.out hne.out);have hby:=zh (Fj wr (.agg #[.slice ar gk cr,.bool false]) w.heap.size ⟨L,false⟩ hR.out.weak 40 40 rfl (by omega) (by omega));obtain⟨⟨KL,S1⟩,hBS⟩:∃B,B=Z9 ⟨L,false⟩ 40:=⟨_,rfl⟩
     rw[←hBS] at hrd2 hby;dsimp only at hrd2 hby;clear hBS hne hR;go_wp2_with fail;refine hby.out.mono ?_;rintro e w2 ⟨x1,vK,rfl,hrf1,hslK,hb2⟩;obtain⟨v1,rfl,hsl1,hlo1⟩:=hrf1.ex;obtain⟨a1,c1,rfl,hsrc1,hz1,hnc1,hcm1⟩:=hsl1.arg;obtain⟨n1,hn1⟩:∃n,n=S1.l.length:=⟨_,rfl⟩
     obtain⟨b1,hb1⟩:∃b,b=S1.wr:=⟨_,rfl⟩
     rw[←hn1] at hsl1 hlo1 hnc1;rw[←hn1,←hb1] at hrf1⊢
     have hnw:zB w2 (w2.alloc (.cells #[.slice a1 n1 c1,.bool b1] RFT)):=(zbr _ _).alloc (zlr _) _;have hbA:zB wr (w2.alloc (.cells #[.slice a1 n1 c1,.bool b1] RFT)):=hb2.trans (hnw.mono hb2.size);obtain⟨wA,hwA⟩:∃x,x=w2.alloc (.cells #[.slice a1 n1 c1,.bool b1] RFT):=⟨_,rfl⟩
     have hIA:Hid (RfI w wA rb p ks is (.slice ar gk cr) u v):=by show RfI _ _ _ _ _ _ _ _ _;rw[hwA];exact hI.out.ext hbA
     have hsA:Hid (RSB wA w2.heap.size RFT (.slice a1 n1 c1) b1):=by rw[hwA];exact RSB.new _ _ _ _
     have hKA:Hid (Sl wA vK KL):=by rw[hwA];exact hslK.below hnw (zlr _)
     have hS1A:Hid (Sl wA (.slice a1 n1 c1) S1.l):=by rw[hwA];exact hsl1.below hnw (zlr _)
     have Hlo1:=zh hlo1;have H1:=zh (zai hrf1.b8 (zai hrf1.len (zai hn1 hb1)));have hwA':=zh hwA.symm;clear hrf1 hsl1 hlo1 hslK hb2 hnw hbA hwA hsrc1 hz1 hn1 hb1 hI hby s0 s1;have n165:n1≤65536:=by rw[H1.out.2.2.1];exact H1.out.2.1
     cases b1 with
     | true=>
      have hd:=zh (YS (hrd2.out.1 H1.out.2.2.2.symm));clear hrd2 hS1A hKA;have r0:=hIA.out.res.c0;have r1:=hIA.out.res.c1;have g0:=hIA.out.res.fz 0;have g1:=hIA.out.res.fz 1;have R1:=(hIA.out.res.set0 zF).set1 zF;have y0:=R1.c0;have y1:=R1.c1;have q0:=hsA.out.c0;have q1:=hsA.out.c1;have hB:Hid (zB w ((wA.setCell ⟨w.heap.size,0,none⟩ zF).setCell ⟨w.heap.size,1,none⟩ zF)):=(hIA.out.below.setCell (p:=⟨w.heap.size,0,none⟩) (zlr _) _).setCell (p:=⟨w.heap.size,1,none⟩) (zlr _) _;clear R1
      go_upto_region 7 with fail
      rw[hwA'.out];go_wp2;refine bodyPost_ret (v:=.tuple #[.agg #[zF,zF],.int .i64 3]) (by rw[results_cell_tmp rfl];go_simp) rfl ⟨zF,zF,by rw[hd.out.2.2];rfl,by rw[hd.out.1];exact World.ownsRow_nil _ _ _ _,by rw[hd.out.2.1];exact World.ownsRow_nil _ _ _ _,hB.out⟩
     | false=>
      by_cases hsh:n1<2
      ·have hd:=zh (YS (hrd2.out.2.1 (by rw[←H1.out.2.2.1];exact hsh)));have e1:decide ((n1:Int)<2)=true:=zdt (by omega);have e1':decide (n1<2)=true:=zdt hsh;clear hrd2 hS1A hKA;have r0:=hIA.out.res.c0;have r1:=hIA.out.res.c1;have g0:=hIA.out.res.fz 0;have g1:=hIA.out.res.fz 1;have R1:=(hIA.out.res.set0 zF).set1 zF;have y0:=R1.c0;have y1:=R1.c1;have q0:=hsA.out.c0;have q1:=hsA.out.c1;have hB:Hid (zB w ((wA.setCell ⟨w.heap.size,0,none⟩ zF).setCell ⟨w.heap.size,1,none⟩ zF)):=(hIA.out.below.setCell (p:=⟨w.heap.size,0,none⟩) (zlr _) _).setCell (p:=⟨w.heap.size,1,none⟩) (zlr _) _;clear R1
       go_upto_region 7 with fail
       rw[hwA'.out];go_wp2;refine bodyPost_ret (v:=.tuple #[.agg #[zF,zF],.int .i64 3]) (by rw[results_cell_tmp rfl];go_simp) rfl ⟨zF,zF,by rw[hd.out.2.2];rfl,by rw[hd.out.1];exact World.ownsRow_nil _ _ _ _,by rw[hd.out.2.1];exact World.ownsRow_nil _ _ _ _,hB.out⟩
      have e1:decide ((n1:Int)<2)=false:=zdf (by omega);have e1':decide (n1<2)=false:=zdf hsh;have h12:2≤n1:=by omega
      have hgo:=zh (hrd2.out.2.2 (by rw[←H1.out.2.2.1];exact h12));have hX0:=H1.out.1.get 0;have hX1:=H1.out.1.get 1
      rcases hS1A.out with ⟨hnil,hl0⟩|⟨g1,o1,c1',hsl,hc1,hnc',hcm'⟩
      ·have:=H1.out.2.2.1;rw[hl0] at this;simp at this;omega
      rw[←H1.out.2.2.1] at hsl hnc'
      cases hsl
      have hg1:Hid (g1<w.heap.size):=Hlo1.out g1 o1 n1 c1 rfl (by omega);have hx0:=hc1 0 (by rw[←H1.out.2.2.1];omega);have hx1:=hc1 1 (by rw[←H1.out.2.2.1];omega);rw[Nat.add_zero] at hx0;have Hc1:=zh hc1;have Hnc1:=zh (zai hnc' hcm');have hdl:Hid ((S1.l.drop 2).length=n1-2):=by show _=_;rw[zld,←H1.out.2.2.1]
      generalize S1.l.getD 0 0=X0 at*;generalize S1.l.getD 1 0=X1 at*;obtain⟨P2,hP2⟩:∃P2:Nat,P2=X0*256+X1:=⟨_,rfl⟩
      have hX:Hid (P2=X0*256+X1∧X0<256∧X1<256):=⟨hP2,hX0,hX1⟩
      have hx:=zh (zai hx0 hx1);rw[←hP2] at hgo;clear hrd2 hP2 hX0 hX1 hx0 hx1 hc1 hnc' hcm' hS1A;have q0:=hsA.out.c0;have q1:=hsA.out.c1;have f0:=hIA.out.fk.c0;have hcv:=hKA.out.conv;have hou:Hid ((wA.alloc (.cells #[.string (Pj KL)] STY)).ownsRow w.heap.size STY 1 u ks.length (sv ks)):=Y4 hIA.out.ku ((zbr _ _).alloc (zlr _) _) (zlr _);have hz3:Hid (w.heap.size≤(wA.alloc (.cells #[.string (Pj KL)] STY)).heap.size):=znt hIA.out.below.size (by simp);have hc3:Hid ((wA.alloc (.cells #[.string (Pj KL)] STY)).cell? ⟨wA.heap.size,0,none⟩=some (.string (Pj KL))):=by show _=_;simp
      have hIB:Hid (RfI w (wA.alloc (.cells #[.string (Pj KL)] STY)) rb p ks is (.slice ar gk cr) u v):=hIA.out.ext ((zbr _ _).alloc (zlr _) _)
      go_upto_region 7 with fail
      rw[hwA'.out]
      go_upto_region 9 with fail
      go_wp2_with (at_builtin;refine Gq rfl (.tmp 51) (.tmp 54) 92 rfl w.heap.size STY underlying92 z9c _ ks (by rfl) hou wA.heap.size 1 (Pj KL) (by rfl) hc3.out (by omega) hz3.out ?_;intro u' w5 ho5 hg5;obtain⟨au,nu,cu,hu'⟩:=y2l ho5.out;subst hu';have hN:=zh (hIB.out.keys hg5.out ho5.out);have z0:=hN.out.2.1.c0;have zf:=hN.out.2.1.fz 0)
      obtain⟨wX,hwX⟩:∃x,x=w5.setCell ⟨p,0,none⟩ (.slice au nu cu):=⟨_,rfl⟩
      rw[←hwX] at hN⊢
      have hsX:Hid (RSB wX w2.heap.size RFT (.slice (some ⟨g1,o1,none⟩) n1 c1) false):=hN.out.2.2.2 _ _ _ (hsA.out.below ((zbr wA.heap.size wA).alloc (zlr _) _) hsA.out.lt);have htX:Hid (Zx (fun i=>w.heap.size≤i) wA wX):=(x3x ((zbr wA.heap.size wA).alloc (zlr _) _)).trans hN.out.2.2.1;have hIX:=zh hN.out.1;obtain⟨ksN,hksN⟩:∃x,x=ks++[Pj KL]:=⟨_,rfl⟩
      have hkl:ksN.length=ks.length+1:=by rw[hksN];simp
      rw[←hksN] at hIX hgo;clear hwX hN z0 zf hou hz3 hc3 hcv ho5 hg5 hksN q0 q1 f0 hIB hIA hsA hKA hwA' e1 e1' hsh;have hlX:=zh (Nat.lt_of_lt_of_le (block_lt_of_cell hx.out.1) htX.out.size);have hv0:Hid (∀i,v.ownBlock=some i→w.heap.size≤i):=JK hIX.out.kv;have hv2:Hid (∀i,v.ownBlock=some i→i≠w2.heap.size):=Xz hIX.out.kv hsX.out (by decide);have hpp:Hid (w2.heap.size≠p):=y2k hsX.out hIX.out.fk (by decide);have hpw:Hid (w.heap.size<p):=hIX.out.hp;have hnF:Hid (∀i,(v.ownBlock=some i∨i=p)→w.heap.size≤i):=fun i hi=>hi.elim (hv0.out i) (fun e=>by subst e;exact Nat.le_of_lt hpw.out)
      have bx:∀(j:Nat) (X:Nat),wA.cell? ⟨g1,o1+j,none⟩=some (.int .u8 X)→∀w',Zx (fun i=>v.ownBlock=some i∨i=p) wX.drew w'→w'.cell? ⟨g1,o1+j,none⟩=some (.int .u8 X):=fun j X hc w' t=>by
       have e1:wX.cell? ⟨g1,o1+j,none⟩=some (.int .u8 X):=by rw[htX.out.cell (p:=⟨g1,o1+j,none⟩) (block_lt_of_cell hc) (Nat.not_le.2 hg1.out)];exact hc
       rw[t.cell (p:=⟨g1,o1+j,none⟩) (block_lt_of_cell e1) (fun h=>absurd (hnF.out _ h) (Nat.not_le.2 hg1.out))];exact e1
      have r0:∀w',Zx (fun i=>v.ownBlock=some i∨i=p) wX.drew w'→w'.cell? ⟨w2.heap.size,0,none⟩=some (.slice (some ⟨g1,o1,none⟩) n1 c1):=fun w' t=>
       (RSB.turn (w:=wX.drew) hsX.out t (fun h=>h.elim (fun h=>hv2.out _ h rfl) (fun e=>hpp.out e))).c0
      have r1:=bx 0 X0 (by rw[Nat.add_zero];exact hx.out.1);have r2:=bx 1 X1 hx.out.2;rw[Nat.add_zero] at r1;clear bx;have y1:(0:Int)<(n1:Int):=by omega
      have y2:(1:Int)<(n1:Int):=by omega
      have y3:IntKind.i64.wrap (X0:Int)=(X0:Int):=by have:=hX.out.2.1;rw[IntKind.wrap_i64];omega
      have y4:IntKind.i64.wrap (X1:Int)=(X1:Int):=by have:=hX.out.2.2;rw[IntKind.wrap_i64];omega
      have y5:0<n1:=by omega
      have y6:1<n1:=by omega
      obtain⟨P1,hP1⟩:∃P1:Nat,P1=256*X0:=⟨_,rfl⟩
      have y7:IntKind.i64.wrap (256*(X0:Int))=(P1:Int):=by have:=hX.out.2.1;rw[IntKind.wrap_i64];omega
      have y8:IntKind.i64.wrap ((P1:Int)+(X1:Int))=(P2:Int):=by have:=hX.out;rw[IntKind.wrap_i64];omega
      clear hP1;go_wp2_with fail;refine D7 (fun i=>v.ownBlock=some i∨i=p) (.rd 0 (.rd 2 (.rd 3 (.rd 4 (.rd 5 (.rd 6 (.rd 7 (.rd 8 (.rd 9 (.rd 10 (.rd 11 (.rd 12 (.rd 13 (.two 1 (.call 14 (.call 15 (.rd 16 (.call 17 .done)))) 14 (.call 1 (.call 15 (.rd 16 (.call 17 .done)))))))))))))))))) (by kernel_rfl) (by kernel_rfl) (by kernel_rfl) (by kernel_rfl) (fun _ _ _ _ _ h=>h) ?_;iterate 13 (refine Mu (o:=⟨_,_,_,_,_,_⟩) (v:= ?_) rfl (by rfl) ?_ ?_;rotate_left;(intro w' hw';go_simp;with_reducible rfl);simp only[Act.put,zs0,zs1,zs2])
      clear r0 r1 r2 y1 y2 y3 y4 y5 y6 y7 y8;apply x0t
      case h=>
       intro share_k;refine⟨?_,?_⟩
       ·refine Vk (o:=⟨_,_,_,_,_,_⟩) rfl (by rfl) (fun K hK=> ?_);have cl:wX.drew.cell? ⟨p,1,none⟩=some v:=hIX.out.fk.c1;go_simp;clear cl;refine hK (fun i=>v.ownBlock=some i∨i=p) (fun _ h _=>h) _ _ (Zx.refl _ _) ?_;clear hK K;refine Vk (o:=⟨_,_,_,_,_,_⟩) rfl (by rfl) (fun K hK=> ?_);go_simp;refine hK (fun i=>v.ownBlock=some i∨i=p) (fun _ h _=>h) _ _ (Kz wX.drew _ _) ?_;clear hK K;exact share_k
       ·refine Vk (o:=⟨_,_,_,_,_,_⟩) rfl (by rfl) (fun K hK=> ?_);go_simp;refine hK (fun i=>v.ownBlock=some i∨i=p) (fun _ h _=>h) _ _ (Kz wX.drew _ _) ?_;clear hK K;refine Vk (o:=⟨_,_,_,_,_,_⟩) rfl (by rfl) (fun K hK=> ?_);have cl:(wX.alloc (.cells #[.int .i64 (P2:Int)] ITY)).drew.cell? ⟨p,1,none⟩=some v:=(hIX.out.fk.stay (.cells #[.int .i64 (P2:Int)] ITY)).c1;go_simp;clear cl;refine hK (fun i=>v.ownBlock=some i∨i=p) (fun _ h _=>h) _ _ (Zx.refl _ _) ?_;clear hK K;exact share_k
      case k=>
       obtain⟨wY,hwY⟩:∃x,x=wX.drew.alloc (.cells #[.int .i64 (P2:Int)] ITY):=⟨_,rfl⟩
       have hbY:Hid (zB wX wY):=by rw[hwY];exact((zbr wX.heap.size wX).drew).alloc (zlr _) _
       have hcY:Hid (wY.cell? ⟨wX.heap.size,0,none⟩=some (.int .i64 (P2:Int))):=by
        show _=_;rw[hwY];exact y52 wX.drew (.int .i64 (P2:Int)) ITY
       show qC _ _ _ _ _ _ (wX.drew.alloc (.cells #[.int .i64 (P2:Int)] ITY));rw[←hwY];clear hwY;have hIY:=zh (hIX.out.ext hbY.out);have hsY:Hid (RSB wY w2.heap.size RFT (.slice (some ⟨g1,o1,none⟩) n1 c1) false):=hsX.out.below hbY.out hsX.out.lt;have hou:Hid (wY.ownsRow w.heap.size ITY 1 v is.length (iv is)):=hIY.out.kv;have hzY:Hid (w.heap.size≤wY.heap.size):=hIY.out.below.size;refine Vk (o:=⟨_,_,_,_,_,_⟩) rfl (by rfl) (fun K hK=> ?_);refine QJ (.tmp 58) (.tmp 71) 101 rfl w.heap.size ITY underlying101 YF v is (by rfl) hou wX.heap.size 1 (P2:Int) (by rfl) hcY.out (by omega) hzY.out ?_;intro v' w6 ho6 hg6;refine hK (fun i=>v.ownBlock=some i∨i=p) (fun _ h _=>h) _ _ ((Rv hg6.out).mono (fun _ h _=> .inl h)) ?_;clear hK K;have hM:=zh (hIY.out.pages hg6.out ho6.out);obtain⟨av,nv,cv,hv'⟩:=y2m ho6.out;subst hv';have z0:=hM.out.2.1.c1;have zf:=hM.out.2.1.fz 1;iterate 1 (refine Mu (o:=⟨_,_,_,_,_,_⟩) (v:= ?_) rfl (by rfl) ?_ ?_;rotate_left;(intro w' hw';go_simp;with_reducible rfl);simp only[Act.put,zs0,zs1,zs2])
       refine Vk (o:=⟨_,_,_,_,_,_⟩) rfl (by rfl) (fun K hK=> ?_);go_simp;refine hK (fun i=>v.ownBlock=some i∨i=p) (fun _ h _=>h) _ _ ((Px w6 p 1 _).mono (fun _ h _=> .inr h)) ?_;clear hK K z0 zf;refine ZU ?_;obtain⟨wZ,hwZ⟩:∃x,x=w6.setCell ⟨p,1,none⟩ (.slice av nv cv):=⟨_,rfl⟩
       rw[←hwZ] at hM⊢
       have hsZ:Hid (RSB wZ w2.heap.size RFT (.slice (some ⟨g1,o1,none⟩) n1 c1) false):=hM.out.2.2.2 _ _ _ hsY.out;have htZ:Hid (Zx (fun i=>w.heap.size≤i) wA wZ):=(htX.out.trans (x3x hbY.out)).trans hM.out.2.2.1;have hIZ:=zh hM.out.1;have hcZ:Cs wZ g1 o1 S1.l:=fun i hi=>by
        have hc:=Hc1.out i hi;rw[htZ.out.cell (p:=⟨g1,o1+i,none⟩) (block_lt_of_cell hc) (Nat.not_le.2 hg1.out)];exact hc
       have htw:=zh (y7o hcZ H1.out.2.2.1.symm h12 Hnc1.out.1 Hnc1.out.2 hg1.out);have hrdr:=zh (fun rv=>hIZ.out.reader rv);have q0:=hsZ.out.c0;have q1:=hsZ.out.c1;have s0:=hIZ.out.sb.c0;have s1:=hIZ.out.sb.c1;have t0:=hIZ.out.sb.fz 0;have t1:=hIZ.out.sb.fz 1;have h8:=zh (zai (H1.out.1.drop 2) (show(S1.l.drop 2).length≤65536 by rw[hdl.out];omega));have hlt:Hid (n1-2<gk):=by
        have h1:=hgo.out.2;rw[hdl.out,hk.out] at h1;exact h1
       clear hM hwZ hIY hou hzY ho6 hg6 hbY hcY hsY hcZ hIX hsX htX hlX hv0 hv2 hpp hnF htZ;have hcm2:c1≤9223372036854775807:=by have:=Hnc1.out.2;unfold maxLen at this;omega
       have hni:(2:Int)≤(n1:Int):=by omega
       have hci:(n1:Int)≤(c1:Int):=by have:=Hnc1.out.1;omega
       have hcc:(2:Int)≤(c1:Int):=by omega
       have hcc':2≤c1:=by omega
       rcases zng 2 c1 with hkc|hkc
       ·have y1:¬(c1=2):=by omega
        have hR:=zh (hrdr.out (.slice (some ⟨g1,o1+2,none⟩) (n1-2) (c1-2)));have hsl3:=zh (((htw.out.1 hkc).1).overLo ((htw.out.1 hkc).2) hR.out.2 (fun i h=>h));have hl3:=zh (htw.out.1 hkc).2;clear hrdr htw;go_wp2_with fail
        go_roundg (n1-2)
        case measure=>exact hlt.out
        case rel=>exact⟨ksN,is++[(P2:Int)],S1.l.drop 2,_,_,_,_,hdl,by have:=hlt.out;omega,by simp;omega,hgo.out.1,hR.out.1,⟨_,rfl,hsl3.out,hl3.out⟩,h8.out.1,h8.out.2,fun h=>by cases h⟩
       ·obtain rfl:c1=2:=by omega
        have hn12:n1=2:=(htw.out.2 rfl).2.1;subst hn12;have hR:=zh (hrdr.out (.slice (some ⟨g1,o1,none⟩) 0 0));have hsl3:=zh (((htw.out.2 rfl).1).overLo ((htw.out.2 rfl).2.2) hR.out.2 (fun i h=>h));have hl3:=zh (htw.out.2 rfl).2.2;clear hrdr htw;go_wp2_with fail
        go_roundg 0
        case measure=>exact hlt.out
        case rel=>exact⟨ksN,is++[(P2:Int)],S1.l.drop 2,_,_,_,_,hdl,by have:=hlt.out;omega,by simp;omega,hgo.out.1,hR.out.1,⟨_,rfl,hsl3.out,hl3.out⟩,h8.out.1,h8.out.2,fun h=>by cases h⟩
    ·obtain rfl:gk=0:=by omega
     have hnil:Hid (L=[]):=List.eq_nil_of_length_eq_zero hk.out;have he:=hend.out ks is ⟨L,false⟩ hS.out hnil.out (by rw[Hn.out];omega);have hok:okS ⟨L,false⟩=true:=by unfold okS;rw[hnil.out];rfl
     have he2:=zh (fun h=>YS (he.2.1 hok h));have he3:=zh (fun h=>z4r (he.2.2 hok h));obtain⟨au,cu,hu,htx⟩:=H9 hI.out.ku;obtain⟨av,cv,hv,hpx⟩:=Q5 hI.out.kv;subst hu hv;have Htx:=zh (zai htx hpx);have f0:=hI.out.fk.c0;have f1:=hI.out.fk.c1;have hch:=zh (z23 au av ks.length cu is.length cv ks is wr rfl rfl Htx.out.1.1 Htx.out.2.1 (by omega) (by omega));have HI:=zh hI.out;have Hku:=zh hI.out.ku;have Hkv:=zh hI.out.kv;obtain⟨nk,hnk⟩:∃x,x=ks.length:=⟨_,rfl⟩
     obtain⟨ni,hni⟩:∃x,x=is.length:=⟨_,rfl⟩
     have hni65:ni≤505:=by omega
     have hKl:Hid (ks.length=nk∧is.length=ni):=⟨hnk.symm,hni.symm⟩
     rw[←hnk] at f0;rw[←hni] at f1;rw[←hnk,←hni] at hch;clear he hok htx hpx hend hrd hnil hnk hni hS hR;go_wp2_with fail;refine hch.out.mono ?_;rintro e w6 ⟨D,rfl,hD,hb6⟩;have HD:=zh hD;have Hb6:=zh (HI.out.below.trans (hb6.mono HI.out.below.size));have Hr6:=zh (HI.out.res.ext hb6);have Hf6:=zh (HI.out.fk.ext hb6);have Hu6:=zh (zai (Y4 Hku.out hb6 (zlr _)) (Y4 Hkv.out hb6 (zlr _)));have Ht6:=zh (zai (Htx.out.1.1.below hb6 (zlr _)) (Htx.out.2.1.below hb6 (zlr _)));clear hD hb6 hch f0 f1 s0 s1
     cases D with
     | false=>
      have hd:=zh (he2.out (fun h=>by have:=HD.out.2 h;cases this));clear he2 he3 HD;have r0:=Hr6.out.c0;have r1:=Hr6.out.c1;have g0:=Hr6.out.fz 0;have g1:=Hr6.out.fz 1;have R1:=(Hr6.out.set0 zF).set1 zF;have y0:=R1.c0;have y1:=R1.c1;have hB:Hid (zB w ((w6.setCell ⟨w.heap.size,0,none⟩ zF).setCell ⟨w.heap.size,1,none⟩ zF)):=(Hb6.out.setCell (p:=⟨w.heap.size,0,none⟩) (zlr _) _).setCell (p:=⟨w.heap.size,1,none⟩) (zlr _) _;clear R1;go_wp2;refine bodyPost_ret (v:=.tuple #[.agg #[zF,zF],.int .i64 3]) (by rw[results_cell_tmp rfl];go_simp) rfl ⟨zF,zF,by rw[hd.out.2.2];rfl,by rw[hd.out.1];exact World.ownsRow_nil _ _ _ _,by rw[hd.out.2.1];exact World.ownsRow_nil _ _ _ _,hB.out⟩
     | true=>
      have hd:=zh (he3.out (HD.out.1 rfl));clear he2 he3 HD;have f0:=Hf6.out.c0;have f1:=Hf6.out.c1;rw[hKl.out.1] at f0;rw[hKl.out.2] at f1;have r0:=Hr6.out.c0;have r1:=Hr6.out.c1;have g0:=Hr6.out.fz 0;have g1:=Hr6.out.fz 1;have R1:=(Hr6.out.set0 (.slice au nk cu)).set1 (.slice av ni cv);have y0:=R1.c0;have y1:=R1.c1;have hB:Hid (zB w ((w6.setCell ⟨w.heap.size,0,none⟩ (.slice au nk cu)).setCell ⟨w.heap.size,1,none⟩ (.slice av ni cv))):=(Hb6.out.setCell (p:=⟨w.heap.size,0,none⟩) (zlr _) _).setCell (p:=⟨w.heap.size,1,none⟩) (zlr _) _;have hT:=zh (zai (V3 Hu6.out.1 (Y2 w6 w.heap.size (.slice au nk cu) (.slice av ni cv)) (fun i hi e=>Xz Hu6.out.1 Hr6.out (by decide) i hi e)) (V3 Hu6.out.2 (Y2 w6 w.heap.size (.slice au nk cu) (.slice av ni cv)) (fun i hi e=>Xz Hu6.out.2 Hr6.out (by decide) i hi e)));clear R1;go_wp2;refine bodyPost_ret (v:=.tuple #[.agg #[.slice au nk cu,.slice av ni cv],.int .i64 0]) (by rw[results_cell_tmp rfl];go_simp) rfl ⟨_,_,by rw[hd.out.2.2];rfl,?_,?_,hB.out⟩
      ·rw[hd.out.1];have h1:=hT.out.1;rw[hKl.out.1] at h1;rw[hKl.out.1];exact h1
      ·rw[hd.out.2.1];have h1:=hT.out.2;rw[hKl.out.2] at h1;rw[hKl.out.2];exact h1
end Go.Proofs.YtdgladhfibfdlaaGreatDoor
