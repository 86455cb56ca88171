/-
  Steps.
-/
import Derived.Test.YtdnfhjfbanhhcaaGreatDoorQLBk28
namespace Go.Proofs.YtdnfhjfbanhhcaaGreatDoor
open Go Go.RowKit
theorem z9x (v:NoV)(es:List En)(w:World)(hv:CV w v.c es)(hl:es.length≤100000)(hch:∀e∈es,e.ch.length≤100000):Calls Tryz.prog 55 #[v.v] w fun e w'=>∃u,e=.returned u∧OC w' w.heap.size u es∧Below w.heap.size w w':=by
 obtain⟨W,hW,hV,hb⟩:=q6c w v;have HW:=zh hW;have HB:=zh hb;have q0:=hV.c1;have Hc:=zh (x09 v.c es W (hv.ext hb) hl hch);rw[←hW] at q0;have hs:w.heap.size≤W.heap.size:=hb.size;clear hW hV hb hv hch hl;obtain⟨pg,ca,cn,cc,ka,kn,kc,pa,pn,pc⟩:=v;dsimp only[NoV.c,NoV.k,NoV.p,NoV.v] at*
 go_enter Tryz.func55,Tryz.ntmps55
 go_wp2_with fail;rw[HW.out];refine Hc.out.mono ?_;rintro e w' ⟨u,rfl,⟨xs,hu,hrw⟩,hb2⟩;have Hu:Hid (OC w' w.heap.size u es):=⟨xs,z4z hu hs,hrw⟩
 have Hb2:=zh (HB.out.trans (hb2.mono HB.out.size));clear hb2 hu hrw;go_wp2;go_ret;exact⟨_,rfl,Hu.out,Hb2.out⟩
def put4 (w:World)(g:Nat)(x0 x1 x2 x3:Value):World:=(((w.setCell ⟨g,0,none⟩ x0).setCell ⟨g,1,none⟩ x1).setCell ⟨g,2,none⟩ x2).setCell ⟨g,3,none⟩ x3
section
variable {w:World} {g T:Nat} {y0 y1 y2 y3 x0 x1 x2 x3:Value}
theorem z13 (h:w.heap[g]? =some (.cells #[y0,y1,y2,y3] T (0,0))):(put4 w g x0 x1 x2 x3).heap[g]? =some (.cells #[x0,x1,x2,x3] T (0,0)):=by
 have hh0:=heap_setCell_same w g 0 _ T x0 h;have hh1:=heap_setCell_same _ g 1 _ T x1 hh0;have hh2:=heap_setCell_same _ g 2 _ T x2 hh1;exact heap_setCell_same _ g 3 _ T x3 hh2
theorem z1r:Turn (fun i=>i=g) w (put4 w g x0 x1 x2 x3):=
 ((((Turn.refl (fun i=>i=g) w).setCell (p:=⟨g,0,none⟩) _ (fun _=>rfl)).setCell (p:=⟨g,1,none⟩) _ (fun _=>rfl)).setCell (p:=⟨g,2,none⟩) _ (fun _=>rfl)).setCell (p:=⟨g,3,none⟩) _ (fun _=>rfl)
theorem z30 {w0:World}{B:Nat}(h:Below B w0 w)(hB:B≤g):Below B w0 (put4 w g x0 x1 x2 x3):=
 (((h.setCell (p:=⟨g,0,none⟩) hB _).setCell (p:=⟨g,1,none⟩) hB _).setCell (p:=⟨g,2,none⟩) hB _).setCell (p:=⟨g,3,none⟩) hB _
end
section
variable {w w':World} {F:Nat→Prop} {T:TypeId}
theorem RW.tur (ht:Turn F w w')(hF:TyF w F T)(hT:pgE.ty T=false):∀{xs:List Rw} {es:List En},RW w xs es→RW w' xs es
 | [],[],_=>trivial
 | _::_,_::_,h=>⟨⟨h.1.1,h.1.2.1,h.1.2.2.tur ht hF hT⟩,RW.tur ht hF hT h.2⟩
 | [],_::_,h=>h.elim
 | _::_,[],h=>h.elim
theorem OC.tur {B:Nat}{v:Value}{es:List En}(h:OC w B v es)(ht:Turn F w w')(hF:TyF w F T)(hT:pgE.ty T=false)(hT2:T≠TCT):OC w' B v es:=by
 obtain⟨xs,h1,h2⟩:=h;exact⟨xs,z17 h1 ht hF hT2,h2.tur ht hF hT⟩
end
def ON (w:World)(B:Nat)(u:Value)(vs:List NoV):Prop:=w.ownsRow B VT nodE.sz u vs.length (nodE.row vs)
theorem ON.ev {w:World}{B:Nat}{u:Value}{vs:List NoV}(h:ON w B u vs):EV nodE w u vs:=z1u (T:=VT) h (by simp[nodE])
set_option maxRecDepth 100000 in
theorem z9y (v:NoV)(ps:List Nat)(vs:List NoV)(w:World)(hv:EV ptrE w v.p ps)(hvs:vs.length=ps.length)(hnp:∀i,i<ps.length→NPv w (na ps i) (va vs i))(hl:ps.length≤100000):
  Calls Tryz.prog 58 #[v.v] w fun e w'=>∃u,e=.returned u∧ON w' w.heap.size u vs∧Below w.heap.size w w':=by
 obtain⟨W,hW,hV,hb⟩:=q6c w v;obtain⟨a1,c1,hp,hs1,hz1,_⟩:=hv;have q2:=hV.c3;rw[hp] at q2;have HW:=zh hW;have HB:=zh hb;have Hs:=zh hs1;have Hnp:=zh hnp;have Hvs:=zh hvs;obtain⟨n,hn⟩:∃n,ps.length=n:=⟨_,rfl⟩
 have Hn:=zh hn;rw[hn] at q2 hl;rw[←hW] at q2;have tk:∀k,k<n→vs.take (k+1)=vs.take k++[va vs k]:=fun k hk=>by
  rw[List.take_succ_eq_append_getElem (by omega)];simp[va,List.getD,show k<vs.length by omega]
 have Htk:=zh tk;clear hW hV hb hs1 hz1 hp hn hvs hnp tk;obtain⟨pg,ca,cn,cc,ka,kn,kc,pa,pn,pc⟩:=v;dsimp only[NoV.c,NoV.k,NoV.p,NoV.v] at*
 go_enter Tryz.func58,Tryz.ntmps58
 go_wp2_with fail;rw[HW.out]
 go_loopw [3,5,10] (fun u _ i wr=>∃(k:Nat) (v:Value),v=u∧i=.int .i64 k∧k≤n∧Hid (wr.ownsRow w.heap.size VT nodE.sz v k (nodE.row (vs.take k)))∧Hid (Below w.heap.size w wr)) (fun _ _ i _=>n-(intOf i).toNat)
 case atStart=>exact⟨0,nilS,rfl,rfl,by omega,World.ownsRow_nil _ _ _ _,HB⟩
 case round=>
  obtain⟨k,u,rfl,rfl,hk,hown,hB⟩:=hrel
  by_cases hlt:k<n
  ·obtain⟨g2,o2,rfl,hc2⟩:=Hs.out.ptrs (by rw[Hn.out];omega);have p0:=hc2 k (by rw[Hn.out];exact hlt);have p1:wr.cell? ⟨g2,o2+k,none⟩=some (pt (na ps k)):=by
    rw[hB.out.cell (p:=⟨g2,o2+k,none⟩) (block_lt_of_cell p0)];exact p0
   have hnb:=(Hnp.out k (by rw[Hn.out];exact hlt)).ext hB.out;have r0:=hnb.c0;have r1:=hnb.c1;have r2:=hnb.c2;have r3:=hnb.c3;have hsz:=hB.out.size;have htl:(vs.take k).length=k:=by rw[zlk,Hvs.out,Hn.out];omega
   have hlit:ES nodE (wr.alloc (.cells #[.int .i64 ((va vs k).pg:Nat),(va vs k).c,(va vs k).k,(va vs k).p] VT)) (some ⟨wr.heap.size,0,none⟩) [va vs k]:=ES.lit (z0h wr VT #[.int .i64 ((va vs k).pg:Nat),(va vs k).c,(va vs k).k,(va vs k).p]) (by simp[nodE]);obtain⟨v1,w1,hrun,hb1,ho1⟩:=z08 (P:=Tryz.prog) (w:=wr.alloc (.cells #[.int .i64 ((va vs k).pg:Nat),(va vs k).c,(va vs k).k,(va vs k).p] VT)) (E:=nodE) w.heap.size 130 130 VT Tryz.underlying130 q48 u k (vs.take k) (hown.out.alloc _) (by simp;omega) (some ⟨wr.heap.size,0,none⟩) 1 1 [va vs k] rfl (fun h=>by cases h) hlit (by unfold maxLen;omega) (by show _*80≤_;omega);have Ho1:Hid (w1.ownsRow w.heap.size VT nodE.sz v1 (k+1) (nodE.row (vs.take (k+1)))):=by
    rw[Htk.out k hlt];exact ho1
   have HB1:Hid (Below w.heap.size w w1):=(hB.out.alloc hsz _).trans hb1;generalize na ps k=pk at*;generalize hfk2:va vs k=x at*;obtain⟨xg,xa,xn,xc,ya,yn,yc,za,zn,zc⟩:=x;dsimp only[NoV.c,NoV.k,NoV.p,NoV.v] at*;clear p0 hc2 hnb htl hlit ho1 hb1 hown hB hfk2
   go_wp2_with (at_builtin;refine Lib.wpList_append_run _ rfl (.tmp 14) (.tmp 19) _ _ rfl _ _ (by rfl) (by rfl) _ _ hrun ?_)
   clear hrun p1 r0 r1 r2 r3;go_wp2_with fail
   go_roundw
   case rel=>exact⟨k+1,v1,rfl,by go_num,by omega,Ho1,HB1⟩
   case measure=>simp[intOf];omega
  ·obtain rfl:k=n:=by omega
   have ho:=hown.out;rw[List.take_of_length_le (by rw[Hvs.out,Hn.out];exact zlr _)] at ho;have Hon:Hid (ON wr w.heap.size u vs):=by
    show wr.ownsRow _ _ _ _ _ _;rw[Hvs.out,Hn.out];exact ho
   clear hown ho;go_wp2;go_ret;exact⟨u,rfl,Hon.out,hB.out⟩
theorem z8p (n:Int)(w:World):Calls Tryz.prog 30 #[.agg #[.pointer none,.int .i64 n]] w fun e w'=>e=.returned (.tuple #[.agg #[.int .i64 0,nilS,nilS,nilS],.bool false])∧Below w.heap.size w w':=by
 have HB:Hid (Below w.heap.size w ((w.alloc (.cells #[.pointer none,.int .i64 n] TT)).alloc (.cells #[.int .i64 0,nilS,nilS,nilS] VT))):=((zbr w.heap.size w).alloc (zlr _) _).alloc (by simp) _
 go_enter Tryz.func30,Tryz.ntmps30
 go_wp2;refine bodyPost_ret (v:=.tuple #[.agg #[.int .i64 0,nilS,nilS,nilS],.bool false]) (by rw[results_cell_tmp rfl];go_simp) rfl ⟨rfl,HB.out⟩
theorem z6x (b:Nat)(n:Int)(v:NoV)(w:World)(hb:NPv w b v):Calls Tryz.prog 30 #[.agg #[pt b,.int .i64 n]] w fun e w'=>e=.returned (.tuple #[v.v,.bool true])∧Below w.heap.size w w':=by
 have HB:Hid (∀x,Below w.heap.size w ((w.alloc (.cells #[pt b,.int .i64 n] TT)).alloc (.cells x VT))):=fun x=>((zbr w.heap.size w).alloc (zlr _) _).alloc (by simp) _
 have q0:=(hb.ext (HB.out #[.int .i64 0,nilS,nilS,nilS])).c0;have q1:=(hb.ext (HB.out #[.int .i64 0,nilS,nilS,nilS])).c1;have q2:=(hb.ext (HB.out #[.int .i64 0,nilS,nilS,nilS])).c2;have q3:=(hb.ext (HB.out #[.int .i64 0,nilS,nilS,nilS])).c3;clear hb;obtain⟨pg,ca,cn,cc,ka,kn,kc,pa,pn,pc⟩:=v;dsimp only[NoV.c,NoV.k,NoV.p,NoV.v] at*
 go_enter Tryz.func30,Tryz.ntmps30
 go_wp2;refine bodyPost_ret (v:=.tuple #[.agg #[.int .i64 (pg:Nat),.slice ca cn cc,.slice ka kn kc,.slice pa pn pc],.bool true]) (by rw[results_cell_tmp rfl];go_simp) rfl ⟨rfl,HB.out _⟩
theorem OCk.lower {w:World}{B B':Nat}{u:Value}{es:List En}{k:Nat}(h:OCk w B u es k)(hb:B'≤B):OCk w B' u es k:=h.elim fun xs h=>⟨xs,z4z h.1 hb,h.2.1,fun j hj a ha=>znt hb (h.2.2 j hj a ha)⟩
theorem OCk.tur {w w':World}{F:Nat→Prop}{T B:Nat}{v:Value}{es:List En}{k:Nat}(h:OCk w B v es k)(ht:Turn F w w')(hF:TyF w F T)(hT:pgE.ty T=false)(hT2:T≠TCT):OCk w' B v es k:=by
 obtain⟨xs,h1,h2,h3⟩:=h;exact⟨xs,z17 h1 ht hF hT2,h2.tur ht hF hT,h3⟩
theorem y08 (pg:Nat)(v:Value)(es:List En)(w:World)(hv:CV w v es)(hl:es.length≤100000)(hch:∀e∈es,e.ch.length≤100000):
  Calls Tryz.prog 84 #[.int .i64 (pg:Nat),v] w fun e w'=>∃x:NoV,e=.returned x.v∧x.pg=pg∧OCk w' w.heap.size x.c es es.length∧x.k=nilS∧x.p=nilS∧Below w.heap.size w w':=by
 obtain⟨W,hW,hT,hb⟩:=z0b w VT #[.int .i64 0,nilS,nilS,nilS];have Hc:=zh (y07 v es W (hv.ext hb) hl hch);have HW:=zh hW;have HB:=zh hb;have HT:=zh hT;have lg:w.heap.size<W.heap.size:=(zag.1 hT).1;clear hW hT hb hv hl hch
 go_enter Tryz.func84,Tryz.ntmps84
 go_wp2_with fail;rw[HW.out];refine Hc.out.mono ?_;rintro e w2 ⟨u,rfl,hoc,hb2⟩;obtain⟨a,c,hu⟩:=hoc.oc.form;subst hu;have hg:w2.heap[w.heap.size]? =some (.cells #[.int .i64 0,nilS,nilS,nilS] VT (0,0)):=(hb2.block _ lg).trans HT.out;have c0:w2.cell? ⟨w.heap.size,0,none⟩=some (.int .i64 0):=by simp[World.cell?,hg]
 have c1:w2.cell? ⟨w.heap.size,1,none⟩=some nilS:=by simp[World.cell?,hg]
 have c2:w2.cell? ⟨w.heap.size,2,none⟩=some nilS:=by simp[World.cell?,hg]
 have c3:w2.cell? ⟨w.heap.size,3,none⟩=some nilS:=by simp[World.cell?,hg]
 have f0:∀i,w2.frozen? ⟨w.heap.size,i,none⟩=false:=fun i=>by simp[World.frozen?,hg]
 have F0:=f0 0;have F1:=f0 1;have F2:=f0 2;have F3:=f0 3;have HB2:=zh (HB.out.trans (hb2.mono HB.out.size));have Hcv:=zh (OCk.lower hoc HB.out.size);have Hg:=zh hg;obtain⟨n,hn⟩:∃n,es.length=n:=⟨_,rfl⟩
 have Hn:=zh hn;rw[hn];clear hoc hb2 f0 hn hg Hc;go_wp2_with fail;have Hp:=zh (z13 (x0:=.int .i64 (pg:Nat)) (x1:=.slice a n c) (x2:=nilS) (x3:=nilS) Hg.out);have k0:(put4 w2 w.heap.size (.int .i64 (pg:Nat)) (.slice a n c) nilS nilS).cell? ⟨w.heap.size,0,none⟩=some (.int .i64 (pg:Nat)):=by simp[World.cell?,Hp.out]
 have k1:(put4 w2 w.heap.size (.int .i64 (pg:Nat)) (.slice a n c) nilS nilS).cell? ⟨w.heap.size,1,none⟩=some (.slice a n c):=by simp[World.cell?,Hp.out]
 have k2:(put4 w2 w.heap.size (.int .i64 (pg:Nat)) (.slice a n c) nilS nilS).cell? ⟨w.heap.size,2,none⟩=some nilS:=by simp[World.cell?,Hp.out]
 have k3:(put4 w2 w.heap.size (.int .i64 (pg:Nat)) (.slice a n c) nilS nilS).cell? ⟨w.heap.size,3,none⟩=some nilS:=by simp[World.cell?,Hp.out]
 unfold put4 at k0 k1 k2 k3;refine bodyPost_ret (v:=.agg #[.int .i64 (pg:Nat),.slice a n c,nilS,nilS]) (by rw[z0c rfl];go_simp) rfl ⟨⟨pg,a,n,c,none,0,0,none,0,0⟩,rfl,rfl,?_,rfl,rfl,z30 HB2.out (zlr _)⟩;have h1:=Hcv.out;rw[Hn.out] at h1;rw[Hn.out];exact OCk.tur h1 z1r (TyF.one Hg.out) rfl (by decide)
def VB4 (w:World)(b:Nat)(v:NoV):Prop:=w.heap[b]? =some (.cells #[.int .i64 (v.pg:Nat),v.c,v.k,v.p] VT (0,0))
theorem VB4.np {w:World}{b:Nat}{v:NoV}(h:VB4 w b v):NPv w b v:=⟨VT,by simp[nty],h⟩
theorem VB4.ext {w w':World}{b:Nat}{v:NoV}(h:VB4 w b v)(hb:Below w.heap.size w w'):VB4 w' b v:=(hb.block b (zag.1 h).1).trans h
theorem VB4.tur {w w':World}{F:Nat→Prop}{b T:Nat}{v:NoV}(h:VB4 w b v)(ht:Turn F w w')(hF:TyF w F T)(hT:T≠VT):VB4 w' b v:=ht.hg h (hF.not h hT)
theorem q6d (ps:List Nat)(b i:Nat)(h:i<ps.length):na (ps++[b]) i=na ps i:=by
 unfold na;simp[List.getD,List.getElem?_append_left h]
theorem q23 (ps:List Nat)(b:Nat):na (ps++[b]) ps.length=b:=by
 unfold na;simp[List.getD]
set_option maxRecDepth 100000 in
theorem z8a (pg:Nat)(vk:Value)(ks:List ByteArray)(a0:Option Addr)(n c0:Nat)(vs:List NoV)(w:World)(hk:EV strE w vk ks)(hkl:ks.length≤100000)(hn:vs.length=n)(hs:ES nodE w a0 vs)(hl:n≤100000):
  Calls Tryz.prog 88 #[.int .i64 (pg:Nat),vk,.slice a0 n c0] w fun e w'=>∃(x:NoV) (ps:List Nat),e=.returned x.v∧x.pg=pg∧x.c=nilS∧EV strE w' x.k ks∧EV ptrE w' x.p ps∧ps.length=n∧(∀i,i<n→VB4 w' (na ps i) (va vs i)∧w.heap.size<na ps i)∧Below w.heap.size w w':=by
 obtain⟨W,hW,hT,hb⟩:=z0b w VT #[.int .i64 0,nilS,nilS,nilS];have Hc:=zh (y0z vk ks W (hk.ext hb) (by omega));have HW:=zh hW;have HB:=zh hb;have HT:=zh hT;have Hn:=zh hn;have Hs:=zh hs;have lg:w.heap.size<W.heap.size:=(zag.1 hT).1;clear hW hT hb hk hkl hn hs
 go_enter Tryz.func88,Tryz.ntmps88
 go_wp2_with fail;rw[HW.out];refine Hc.out.mono ?_;rintro e w1 ⟨uk,rfl,hu,hb1⟩;obtain⟨ak,ck,huk,hsk⟩:=hu;subst huk;obtain⟨nk,hnk⟩:∃n,ks.length=n:=⟨_,rfl⟩
 have Hnk:=zh hnk;rw[hnk];have hev1:EV strE w1 (.slice ak nk ck) ks:=⟨ak,ck,by rw[hnk],hsk⟩
 obtain⟨w2,hw2,ht2,hb2⟩:=z0b w1 NT #[.int .i64 (pg:Nat),nilS,.slice ak nk ck,nilS];have H6:=zh ((hb2.block _ (Nat.lt_of_lt_of_le lg hb1.size)).trans ((hb1.block _ lg).trans HT.out));have Hev:=zh (hev1.ext hb2);have H7:=zh ht2;have HW2:=zh hw2;have HB2:=zh ((HB.out.trans (hb1.mono HB.out.size)).trans (hb2.mono (HB.out.trans (hb1.mono HB.out.size)).size));have hbt:w.heap.size<w1.heap.size:=Nat.lt_of_lt_of_le lg hb1.size;obtain⟨bt,hbt0⟩:∃bt,w1.heap.size=bt:=⟨_,rfl⟩
 rw[hbt0] at H7 hbt;have Hbt:=zh hbt0;clear hsk hnk hev1 hw2 ht2 hb2 hb1 hbt0 Hc HT;go_wp2_with fail;rw[Hbt.out,HW2.out]
 go_loopw [9,16] (fun _ i wr=>∃(k:Nat) (ps:List Nat) (u:Value),i=.int .i64 k∧k≤n∧ps.length=k∧Hid (wr.heap[bt]? =some (.cells #[.int .i64 (pg:Nat),nilS,.slice ak nk ck,u] NT (0,0))∧wr.heap[w.heap.size]? =some (.cells #[.int .i64 0,nilS,nilS,nilS] VT (0,0)))∧
  Hid (wr.ownsRow w.heap.size PNT ptrE.sz u k (ptrE.row ps))∧Hid (EV strE wr (.slice ak nk ck) ks)∧Hid (∀i,i<k→VB4 wr (na ps i) (va vs i)∧w.heap.size<na ps i)∧Hid (Below w.heap.size w wr)) (fun _ i _=>n-(intOf i).toNat)
 case atStart=>exact⟨0,[],nilS,rfl,by omega,rfl,⟨H7.out,H6.out⟩,World.ownsRow_nil _ _ _ _,Hev,(fun i hi=>by omega),HB2⟩
 case round=>
  obtain⟨k,ps,u,rfl,hk,hpl,hblk,hown,hev,hvb,hB⟩:=hrel
  by_cases hlt:k<n
  ·obtain⟨g,o,rfl,hcell⟩:=(Hs.out.below hB.out (zlr _)).nods (by rw[Hn.out];omega);obtain⟨p0,p1,p2,p3⟩:=hcell k (by rw[Hn.out];exact hlt);obtain⟨ua,uc,hu⟩:∃ua uc,u=.slice ua k uc:=by
    rcases hown.out.2 with ⟨h1,h2⟩|⟨g2,cap,cur,h1,_⟩
    ·exact⟨none,0,by rw[h1,h2]⟩
    ·exact⟨_,cap,h1⟩
   subst hu;have hsz:=hB.out.size;have lbt:bt<wr.heap.size:=(zag.1 hblk.out.1).1
   --the kid's own block
   obtain⟨w3,hw3,hv3,hb3⟩:=z0b wr VT #[.int .i64 ((va vs k).pg:Nat),(va vs k).c,(va vs k).k,(va vs k).p];obtain⟨w4,hw4,hv4,hb4⟩:=z0b w3 PNT #[pt wr.heap.size];have hs3:w3.heap.size=wr.heap.size+1:=by rw[←hw3];simp
   have hb34:=hb3.trans (hb4.mono hb3.size);have hlit:ES ptrE w4 (some ⟨wr.heap.size+1,0,none⟩) [wr.heap.size]:=by
    rw[←hs3];exact ES.lit (E:=ptrE) (l:=[wr.heap.size]) hv4
   have hown4:=z0p hown.out hb34 (zlr _);have htt:=TyF.own hown4;obtain⟨v1,w5,hrun,hb5,ht5,ho5⟩:=z2a (P:=Tryz.prog) (w:=w4) (E:=ptrE) w.heap.size 81 81 PNT Tryz.underlying81 x4b (.slice ua k uc) k ps hown4 (by have:=hb34.size;omega) (some ⟨wr.heap.size+1,0,none⟩) 1 1 [wr.heap.size] rfl (by omega) hlit (by unfold maxLen;omega) (by show _*8≤_;omega);have hblk4:w4.heap[bt]? =some (.cells #[.int .i64 (pg:Nat),nilS,.slice ak nk ck,.slice ua k uc] NT (0,0)):=(hb34.block bt lbt).trans hblk.out.1;have l6:w.heap.size<wr.heap.size:=by omega
   have h64:w4.heap[w.heap.size]? =some (.cells #[.int .i64 0,nilS,nilS,nilS] VT (0,0)):=(hb34.block _ l6).trans hblk.out.2;have hblk5:=ht5.hg hblk4 (htt.not hblk4 (by decide));have h65:=ht5.hg h64 (htt.not h64 (by decide));have hvb5:∀i,i<k+1→VB4 w5 (na (ps++[wr.heap.size]) i) (va vs i)∧w.heap.size<na (ps++[wr.heap.size]) i:=fun i hi=>by
    rcases zng i k with h1|h1
    ·rw[q6d ps _ i (by omega)];exact⟨((hvb.out i h1).1.ext hb34).tur ht5 htt (by decide),(hvb.out i h1).2⟩
    ·obtain rfl:i=k:=by omega
     rw[←hpl,q23,hpl];exact⟨(VB4.ext (w:=w3) hv3 hb4).tur ht5 htt (by decide),l6⟩
   have hev5:=((hev.out.ext hb34).tur ht5 htt rfl)
   have hB5:=(hB.out.trans (hb34.mono hsz)).trans hb5;obtain⟨va1,vc1,hv1⟩:∃a c,v1=.slice a (k+1) c:=by
    rcases ho5.2 with ⟨h1,h2⟩|⟨g2,cap,cur,h1,_⟩
    ·omega
    ·exact⟨_,cap,h1⟩
   subst hv1
   --the store into the field of kids
   have hst:Turn (fun i=>i=bt) w5 (w5.setCell ⟨bt,3,none⟩ (.slice va1 (k+1) vc1)):=(Turn.refl (fun i=>i=bt) w5).setCell (p:=⟨bt,3,none⟩) _ (fun _=>rfl);have htb:=TyF.one hblk5;have R1:Hid ((w5.setCell ⟨bt,3,none⟩ (.slice va1 (k+1) vc1)).heap[bt]? =some (.cells #[.int .i64 (pg:Nat),nilS,.slice ak nk ck,.slice va1 (k+1) vc1] NT (0,0))∧(w5.setCell ⟨bt,3,none⟩ (.slice va1 (k+1) vc1)).heap[w.heap.size]? =some (.cells #[.int .i64 0,nilS,nilS,nilS] VT (0,0))):=
    ⟨heap_setCell_same w5 bt 3 _ NT _ hblk5,hst.hg h65 (by omega)⟩
   have R2:Hid ((w5.setCell ⟨bt,3,none⟩ (.slice va1 (k+1) vc1)).ownsRow w.heap.size PNT ptrE.sz (.slice va1 (k+1) vc1) (k+1) (ptrE.row (ps++[wr.heap.size]))):=z17 ho5 hst htb (by decide);have R3:=zh (hev5.tur hst htb rfl);have R4:Hid (∀i,i<k+1→VB4 (w5.setCell ⟨bt,3,none⟩ (.slice va1 (k+1) vc1)) (na (ps++[wr.heap.size]) i) (va vs i)∧w.heap.size<na (ps++[wr.heap.size]) i):=fun i hi=>⟨(hvb5 i hi).1.tur hst htb (by decide),(hvb5 i hi).2⟩
   have R5:=zh (hB5.setCell (p:=⟨bt,3,none⟩) (show w.heap.size≤bt by omega) (.slice va1 (k+1) vc1));have hpl2:(ps++[wr.heap.size]).length=k+1:=by rw[zla,hpl];rfl
   have Q:=zh hw3;have Q4:Hid ((wr.alloc (.cells #[.int .i64 ((va vs k).pg:Nat),(va vs k).c,(va vs k).k,(va vs k).p] VT)).alloc (.cells #[pt wr.heap.size] PNT)=w4):=by show _=_;rw[hw3,hw4]
   have t0:w4.cell? ⟨bt,3,none⟩=some (.slice ua k uc):=by simp[World.cell?,hblk4]
   have t1:w5.cell? ⟨bt,3,none⟩=some (.slice ua k uc):=by simp[World.cell?,hblk5]
   have t2:w5.frozen? ⟨bt,3,none⟩=false:=by simp[World.frozen?,hblk5]
   have t3:wr.cell? ⟨bt,3,none⟩=some (.slice ua k uc):=by simp[World.cell?,hblk.out.1]
   have Hhk:=zh hpl2;rw[←Q4.out] at hrun;generalize hfk2:va vs k=x at*;obtain⟨xg,xa,xn,xc,ya,yn,yc,za,zn,zc⟩:=x;dsimp only[NoV.c,NoV.k,NoV.p,NoV.v] at*;clear hcell hw3 hv3 hb3 hw4 hv4 hb4 hs3 hb34 hlit hown4 htt hb5 ht5 ho5 hblk4 h64 hblk5 h65 hvb5 hev5 hB5 hst htb hblk hown hev hvb hB hfk2 hpl2 t0 Q4 Q
   go_wp2_with (at_builtin;refine Lib.wpList_append_run _ rfl (.tmp 21) (.tmp 23) _ _ rfl _ _ (by rfl) (by rfl) _ _ hrun ?_)
   clear hrun p0 p1 p2 p3 t3;go_wp2_with fail
   go_roundw
   case rel=>exact⟨k+1,ps++[wr.heap.size],.slice va1 (k+1) vc1,by go_num,by omega,Hhk.out,R1,R2,R3,R4,R5⟩
   case measure=>simp[intOf];omega
  ·obtain rfl:k=n:=by omega
   obtain⟨ua,uc,hu⟩:∃ua uc,u=.slice ua k uc:=by
    rcases hown.out.2 with ⟨h1,h2⟩|⟨g2,cap,cur,h1,_⟩
    ·exact⟨none,0,by rw[h1,h2]⟩
    ·exact⟨_,cap,h1⟩
   subst hu;have H:=zh hblk.out;have t0:wr.cell? ⟨bt,0,none⟩=some (.int .i64 (pg:Nat)):=by simp[World.cell?,H.out.1]
   have t1:wr.cell? ⟨bt,1,none⟩=some nilS:=by simp[World.cell?,H.out.1]
   have t2:wr.cell? ⟨bt,2,none⟩=some (.slice ak nk ck):=by simp[World.cell?,H.out.1]
   have t3:wr.cell? ⟨bt,3,none⟩=some (.slice ua k uc):=by simp[World.cell?,H.out.1]
   have s0:wr.cell? ⟨w.heap.size,0,none⟩=some (.int .i64 0):=by simp[World.cell?,H.out.2]
   have s1:wr.cell? ⟨w.heap.size,1,none⟩=some nilS:=by simp[World.cell?,H.out.2]
   have s2:wr.cell? ⟨w.heap.size,2,none⟩=some nilS:=by simp[World.cell?,H.out.2]
   have s3:wr.cell? ⟨w.heap.size,3,none⟩=some nilS:=by simp[World.cell?,H.out.2]
   have f:∀i,wr.frozen? ⟨w.heap.size,i,none⟩=false:=fun i=>by simp[World.frozen?,H.out.2]
   have f0:=f 0;have f1:=f 1;have f2:=f 2;have f3:=f 3;have hp:=z13 (x0:=.int .i64 (pg:Nat)) (x1:=nilS) (x2:=.slice ak nk ck) (x3:=.slice ua k uc) H.out.2;have k0:(put4 wr w.heap.size (.int .i64 (pg:Nat)) nilS (.slice ak nk ck) (.slice ua k uc)).cell? ⟨w.heap.size,0,none⟩=some (.int .i64 (pg:Nat)):=by simp[World.cell?,hp]
   have k1:(put4 wr w.heap.size (.int .i64 (pg:Nat)) nilS (.slice ak nk ck) (.slice ua k uc)).cell? ⟨w.heap.size,1,none⟩=some nilS:=by simp[World.cell?,hp]
   have k2:(put4 wr w.heap.size (.int .i64 (pg:Nat)) nilS (.slice ak nk ck) (.slice ua k uc)).cell? ⟨w.heap.size,2,none⟩=some (.slice ak nk ck):=by simp[World.cell?,hp]
   have k3:(put4 wr w.heap.size (.int .i64 (pg:Nat)) nilS (.slice ak nk ck) (.slice ua k uc)).cell? ⟨w.heap.size,3,none⟩=some (.slice ua k uc):=by simp[World.cell?,hp]
   unfold put4 at k0 k1 k2 k3;have htb:=TyF.one H.out.2;have R1:=zh (z17 hown.out (z1r (x0:=.int .i64 (pg:Nat)) (x1:=nilS) (x2:=.slice ak nk ck) (x3:=.slice ua k uc)) htb (by decide));have R2:=zh (hev.out.tur (z1r (x0:=.int .i64 (pg:Nat)) (x1:=nilS) (x2:=.slice ak nk ck) (x3:=.slice ua k uc)) htb rfl);have R3:Hid (∀i,i<k→VB4 (put4 wr w.heap.size (.int .i64 (pg:Nat)) nilS (.slice ak nk ck) (.slice ua k uc)) (na ps i) (va vs i)∧w.heap.size<na ps i):=fun i hi=>by
    obtain⟨h1,h2⟩:=hvb.out i hi;have h1':wr.heap[na ps i]? =_:=h1;exact⟨z1r.hg h1' (by omega),h2⟩
   have R4:=zh (z30 (x0:=.int .i64 (pg:Nat)) (x1:=nilS) (x2:=.slice ak nk ck) (x3:=.slice ua k uc) hB.out (zlr w.heap.size));have Hpl:=zh hpl;clear f hp hown hev hvb hB hblk htb hpl;go_wp2_with fail;refine bodyPost_ret (v:=.agg #[.int .i64 (pg:Nat),nilS,.slice ak nk ck,.slice ua k uc]) (by rw[z0c rfl];go_simp) rfl ⟨⟨pg,none,0,0,ak,nk,ck,ua,k,uc⟩,ps,rfl,rfl,rfl,R2.out,?_,Hpl.out,R3.out,R4.out⟩;have h1:=R1.out;rw[←Hpl.out] at h1;have h2:=z1u (T:=PNT) h1;rw[Hpl.out] at h2;exact h2
def NdVT (w:World):Nat→SB→SB→NoV→Tr→Prop
 | 0,lo,hi,v,t=>∃es,t=.leaf v.pg es∧v.k=nilS∧v.p=nilS∧CV w v.c es∧ltO lo hi∧srt es∧∀x∈es,okE x∧ins lo hi x.k
 | h+1,lo,hi,v,t=>∃ks ps ts,t=.bran v.pg ks ts∧v.c=nilS∧EV strE w v.k ks∧EV ptrE w v.p ps∧KRow (z09 w h) ks lo hi ps ts
theorem NdVT.ext {w w':World}(hb:Below w.heap.size w w'){h:Nat}{lo hi:SB}{v:NoV}{t:Tr}(hn:NdVT w h lo hi v t):NdVT w' h lo hi v t:=by
 cases h with
 | zero=>
  obtain⟨es,h0,h1,h2,h3,h4⟩:=hn;exact⟨es,h0,h1,h2,h3.ext hb,h4⟩
 | succ h=>
  obtain⟨ks,ps,ts,h0,h1,h2,h3,hr⟩:=hn;exact⟨ks,ps,ts,h0,h1,h2.ext hb,h3.ext hb,hr.mono (fun _ _ _ _ h5=>h5.ext hb)⟩
theorem NdT.val {w:World}{h:Nat}{lo hi:SB}{b:Nat}{t:Tr}(hn:NdT w h lo hi b t):∃v:NoV,NPv w b v∧NdVT w h lo hi v t:=by
 cases h with
 | zero=>
  obtain⟨pg,es,rfl,⟨vc,np,a,c,rfl,h3⟩,h4⟩:=hn;exact⟨⟨pg,a,es.length,c,none,0,0,none,0,0⟩,np,es,rfl,rfl,rfl,⟨a,c,rfl,h3⟩,h4⟩
 | succ h=>
  obtain⟨pg,ks,ps,ts,rfl,⟨vk,vp,np,⟨a,c,rfl,h3⟩,⟨a',c',rfl,h4⟩⟩,h5⟩:=hn;exact⟨⟨pg,none,0,0,a,ks.length,c,a',ps.length,c'⟩,np,ks,ps,ts,rfl,rfl,⟨a,c,rfl,h3⟩,⟨a',c',rfl,h4⟩,h5⟩
theorem NdVT.node {w:World}{h:Nat}{lo hi:SB}{b:Nat}{v:NoV}{t:Tr}(hb:NPv w b v)(hn:NdVT w h lo hi v t):NdT w h lo hi b t:=by
 cases h with
 | zero=>
  obtain⟨es,rfl,h1,h2,h3,h4⟩:=hn;unfold NPv at hb;rw[h1,h2] at hb;exact⟨v.pg,es,rfl,⟨v.c,hb,h3⟩,h4⟩
 | succ h=>
  obtain⟨ks,ps,ts,rfl,h1,h2,h3,hr⟩:=hn;unfold NPv at hb;rw[h1] at hb;exact⟨v.pg,ks,ps,ts,rfl,⟨v.k,v.p,hb,h2,h3⟩,hr⟩
theorem NdVT.pg {w:World}{h:Nat}{lo hi:SB}{v:NoV}{t:Tr}(hn:NdVT w h lo hi v t):t.pg=v.pg:=by
 cases h with
 | zero=>obtain⟨es,rfl,_⟩:=hn;rfl
 | succ h=>obtain⟨ks,ps,ts,rfl,_⟩:=hn;rfl
theorem NdVT.nd {w:World}{h:Nat}{lo hi:SB}{v:NoV}{t:Tr}(hn:NdVT w h lo hi v t):∃W,w.alloc (.cells #[.int .i64 (v.pg:Nat),v.c,v.k,v.p] VT)=W∧NdT W h lo hi w.heap.size t∧NPv W w.heap.size v∧Below w.heap.size w W:=by
 obtain⟨W,hW,hV,hb⟩:=q6c w v;exact⟨W,hW,(hn.ext hb).node hV,hV,hb⟩
set_option maxRecDepth 100000 in
theorem y9g {h:Nat}(v:NoV)(t:Tr)(w:World)(hn:NdVT w h none none v t)(hz:t.sz≤504)(hz3:0<h→3≤t.sz)(hne:t.es≠[])(hl:t.es.length≤1000000):
  Calls Tryz.prog 31 #[v.v] w fun e w'=>∃p,e=.returned (.agg #[.pointer p,.int .i64 (t.es.length:Nat)])∧z0y w' p [t] (h+1)∧Below w.heap.size w w':=by
 obtain⟨W1,hW1,hT1,_,hb1⟩:=hn.nd;obtain⟨W2,hW2,hT2,hb2⟩:=z0b W1 TT #[.pointer none,.int .i64 0];obtain⟨W3,hW3,hT3,hb3⟩:=z0b W2 TT #[pt w.heap.size,.int .i64 0];have hs1:W1.heap.size=w.heap.size+1:=by rw[←hW1];simp
 have hs2:W2.heap.size=w.heap.size+2:=by rw[←hW2];simp[hs1]
 have hb23:=hb2.trans (hb3.mono hb2.size);have hb123:=hb1.trans (hb23.mono hb1.size);have hn3:NdT W3 h none none w.heap.size t:=NdT.ext hb23 h hT1;have hT2':TB W3 (w.heap.size+1) none 0:=by rw[←hs1];exact TB.ext (w:=W2) hT2 hb3
 have hT3':TB W3 (w.heap.size+2) (some ⟨w.heap.size,0,none⟩) 0:=by rw[←hs2];exact hT3
 have hg:=z4y W3 h none none w.heap.size t.es t.sz nilS [] W3 (NdT.nd h hn3) (by omega) (zbr _ _) (World.ownsRow_nil _ _ _ _) (by simp;omega);have Hg:=zh hg;have HW:Hid (((w.alloc (.cells #[.int .i64 (v.pg:Nat),v.c,v.k,v.p] VT)).alloc (.cells #[.pointer none,.int .i64 0] TT)).alloc (.cells #[pt w.heap.size,.int .i64 0] TT)=W3):=by show _=_;rw[hW1,hW2,hW3]
 have HB:=zh hb123;have Hn3:=zh hn3;have H2:=zh hT2';have H3:=zh hT3';have Hz:=zh (zai hz (zai hz3 hne));have q0:=hT3'.c0;have q1:=hT3'.c1;obtain⟨n,hn9⟩:∃n,t.es.length=n:=⟨_,rfl⟩
 have Hn:=zh hn9;rw[hn9] at hl⊢
 clear hn hW1 hT1 hb1 hW2 hT2 hb2 hW3 hT3 hb3 hs1 hs2 hb23 hb123 hn3 hT2' hT3' hg hz hz3 hne hn9;obtain⟨pg,ca,cn,cc,ka,kn,kc,pa,pn,pc⟩:=v;dsimp only[NoV.c,NoV.k,NoV.p,NoV.v] at*
 go_enter Tryz.func31,Tryz.ntmps31
 go_wp2_with fail;rw[HW.out];refine Hg.out.mono ?_;rintro e w4 ⟨u,rfl,ho,hb4,hb5⟩;obtain⟨ua,uc,hu⟩:∃ua uc,u=.slice ua n uc:=by
  have ho':=ho;simp only[List.length_nil,Nat.zero_add,List.nil_append] at ho';rw[Hn.out] at ho'
  rcases ho'.2 with ⟨h1,h2⟩|⟨g2,cap,cur,h1,_⟩
  ·exact⟨none,0,by rw[h1,h2]⟩
  ·exact⟨_,cap,h1⟩
 subst hu;have h24:=H2.out.ext hb5;have h34:=H3.out.ext hb5;have HB4:=zh (HB.out.trans (hb5.mono HB.out.size));have Hn4:=zh (NdT.ext hb5 h Hn3.out);have c0:=h34.c0;have c1:=h34.c1;have f1:=h34.fz 1;have g0:=h24.c0;have g1:=h24.c1;have G0:=h24.fz 0;have G1:=h24.fz 1;have H24:=zh h24;have H34:=zh h34;have t1:Turn (fun i=>i=w.heap.size+2) w4 (w4.setCell ⟨w.heap.size+2,1,none⟩ (.int .i64 (n:Int))):=(Turn.refl (fun i=>i=w.heap.size+2) w4).setCell (p:=⟨w.heap.size+2,1,none⟩) _ (fun _=>rfl);have hA:TB (w4.setCell ⟨w.heap.size+2,1,none⟩ (.int .i64 (n:Int))) (w.heap.size+2) (some ⟨w.heap.size,0,none⟩) n:=heap_setCell_same w4 (w.heap.size+2) 1 _ _ _ h34;have hB:TB (w4.setCell ⟨w.heap.size+2,1,none⟩ (.int .i64 (n:Int))) (w.heap.size+1) none 0:=h24.turn t1 (by omega);have hN:=(NdT.turn t1 (TF.one h34) h Hn4.out)
 have hN2:=zh (NdT.turn (z0m (w4.setCell ⟨w.heap.size+2,1,none⟩ (.int .i64 (n:Int))) (w.heap.size+1) (.pointer (some ⟨w.heap.size,0,none⟩)) (.int .i64 (n:Int))) (TF.one hB) h hN);have hBl:Hid (Below w.heap.size w (((w4.setCell ⟨w.heap.size+2,1,none⟩ (.int .i64 (n:Int))).setCell ⟨w.heap.size+1,0,none⟩ (.pointer (some ⟨w.heap.size,0,none⟩))).setCell ⟨w.heap.size+1,1,none⟩ (.int .i64 (n:Int)))):=z1m (HB4.out.setCell (p:=⟨w.heap.size+2,1,none⟩) (by show w.heap.size≤w.heap.size+2;omega) _) (by omega);have m0:=hA.c0;have m1:=hA.c1;have u0:=hB.c0;have u1:=hB.c1;have v0:=hB.fz 0;have v1:=hB.fz 1;have HP:=zh (hB.put (some ⟨w.heap.size,0,none⟩) n);have x0:=HP.out.c0;have x1:=HP.out.c1;clear ho hb4 hb5 h24 h34 Hg q0 q1 t1 hA hB hN;go_wp2_with fail;refine bodyPost_ret (v:=.agg #[pt w.heap.size,.int .i64 (n:Int)]) (by rw[z0c rfl];go_simp) rfl ⟨some ⟨w.heap.size,0,none⟩,rfl,.inr ⟨w.heap.size,h,t,rfl,rfl,hN2.out,Hz.out.1,Hz.out.2.1,Hz.out.2.2,rfl⟩,hBl.out⟩
theorem x5i {w:World}{a:Option Addr}{n c:Nat}{es:List En}(h:CV w (.slice a n c) es)(h0:0<es.length):∃g o,a=some ⟨g,o,none⟩∧∀i,i<es.length→w.cell? ⟨g,o+i*3,none⟩=some (.string (ea es i).k)∧w.cell? ⟨g,o+i*3+1,none⟩=some (.string (ea es i).v)∧
  ∃v,w.cell? ⟨g,o+i*3+2,none⟩=some v∧EV pgE w v (ea es i).ch:=by
 obtain⟨a',c',h1,hs,_⟩:=h;injection h1 with h1 _ _
 subst h1;exact hs.ents h0
theorem z5b (v:NoV)(w:World):Calls Tryz.prog 52 #[v.v] w fun e w'=>e=.returned (.bool (!decide (v.pg=0)))∧Below w.heap.size w w':=by
 obtain⟨W,hW,hV,hb⟩:=q6c w v;have Hc:=zh (z3z v W);have HW:=zh hW;have HB:=zh hb;obtain⟨D,hD⟩:∃D,(!decide (v.pg=0))=D:=⟨_,rfl⟩
 have hd:(((v.pg:Nat):Int) !=0)=D:=by
  rw[←hD]
  by_cases h:v.pg=0
  ·rw[h];rfl
  ·rw[zdf h,bne_iff_ne.2 (by omega)];rfl
 rw[hD];clear hW hV hb hD;obtain⟨pg,ca,cn,cc,ka,kn,kc,pa,pn,pc⟩:=v;dsimp only[NoV.c,NoV.k,NoV.p,NoV.v] at*
 go_enter Tryz.func52,Tryz.ntmps52
 go_wp2_with fail;rw[HW.out];refine Hc.out.mono ?_;rintro e w' ⟨rfl,hb⟩;have Hb:=zh (HB.out.trans (hb.mono HB.out.size));clear hb;go_wp2;go_ret;exact⟨rfl,Hb.out⟩
theorem y09 (k v:ByteArray)(a:Option Addr)(n c:Nat)(w:World):Calls Tryz.prog 108 #[.agg #[.string k,.string v,.slice a n c]] w fun e w'=>e=.returned (.bool (decide (64<v.size)))∧Below w.heap.size w w':=by
 obtain⟨D,hD⟩:∃D,decide (64<v.size)=D:=⟨_,rfl⟩
 have hd:decide ((64:Int)<(v.size:Int))=D:=by
  rw[←hD];rw[decide_eq_decide];omega
 rw[hD];clear hD
 go_enter Tryz.func108,Tryz.ntmps108
 go_wp2;go_ret;exact⟨rfl,(zbr _ _).alloc (zlr _) _⟩
theorem y5q (k v:ByteArray)(a:Option Addr)(n c:Nat)(w:World):Calls Tryz.prog 72 #[.agg #[.string k,.string v,.slice a n c]] w fun e w'=>e=.returned (.bool (decide (64<v.size)&&decide (n=0)))∧Below w.heap.size w w':=by
 obtain⟨W,hW,hT,hb⟩:=z0b w TCT #[.string k,.string v,.slice a n c];have Hc:=zh (y09 k v a n c W);have HW:=zh hW;have HB:=zh hb;have HT:=zh hT;have lg:w.heap.size<W.heap.size:=(zag.1 hT).1;obtain⟨D,hD⟩:∃D,decide (64<v.size)=D:=⟨_,rfl⟩
 obtain⟨D2,hD2⟩:∃D,decide (n=0)=D:=⟨_,rfl⟩
 have hd:((n:Int)==0)=D2:=by
  rw[←hD2]
  by_cases h:n=0
  ·rw[h];rfl
  ·rw[zdf h,beq_eq_false_iff_ne];omega
 rw[hD] at Hc;rw[hD,hD2];clear hD hD2 hW hT hb
 go_enter Tryz.func72,Tryz.ntmps72
 go_wp2_with fail;rw[HW.out];refine Hc.out.mono ?_;rintro e w1 ⟨rfl,hb1⟩;have hg:w1.heap[w.heap.size]? =some (.cells #[.string k,.string v,.slice a n c] TCT (0,0)):=(hb1.block _ lg).trans HT.out;have c2:w1.cell? ⟨w.heap.size,2,none⟩=some (.slice a n c):=by simp[World.cell?,hg]
 have Hb:=zh (HB.out.trans (hb1.mono HB.out.size));clear hb1 hg Hc
 cases D with
 | true=>
  go_wp2;go_ret;exact⟨rfl,Hb.out⟩
 | false=>
  go_wp2;go_ret;exact⟨rfl,Hb.out⟩
def ceV (c:Ce):Value:=.agg #[.string c.k,.string c.v,.int .i64 c.n,.int .i64 c.p]
set_option maxRecDepth 100000 in
theorem y7l (e:En)(a:Option Addr)(c:Nat)(w:World)(hv:EV pgE w (.slice a e.ch.length c) e.ch)(hl:64<e.v.size→0<e.ch.length):Calls Tryz.prog 82 #[.agg #[.string e.k,.string e.v,.slice a e.ch.length c]] w fun r w'=>r=.returned (ceV (cE e))∧Below w.heap.size w w':=by
 obtain⟨W,hW,hT,hb⟩:=z0b w TCT #[.string e.k,.string e.v,.slice a e.ch.length c];obtain⟨W2,hW2,hT2,hb2⟩:=z0b W 170 #[.string ⟨#[]⟩,.string ⟨#[]⟩,.int .i64 0,.int .i64 0];have hs1:W.heap.size=w.heap.size+1:=by rw[←hW];simp
 have hb12:=hb.trans (hb2.mono hb.size);have Hc:=zh (y09 e.k e.v a e.ch.length c W2);have HW:Hid ((w.alloc (.cells #[.string e.k,.string e.v,.slice a e.ch.length c] TCT)).alloc (.cells #[.string ⟨#[]⟩,.string ⟨#[]⟩,.int .i64 0,.int .i64 0] 170)=W2):=by show _=_;rw[hW,hW2]
 have HB:=zh hb12;have HT:=zh ((hb2.block _ (zag.1 hT).1).trans hT);rw[hs1] at hT2;have HT2:=zh hT2;have lg:w.heap.size+1<W2.heap.size:=(zag.1 hT2).1;have hdrew:∀(X:World),Below X.heap.size X X.drew:=fun X=>(zbr _ _).drew
 have fin:∀(X:World) (y0 y1 y2 y3:Value),X.heap[w.heap.size+1]? =some (.cells #[.string ⟨#[]⟩,.string ⟨#[]⟩,.int .i64 0,.int .i64 0] 170 (0,0))→(put4 X (w.heap.size+1) y0 y1 y2 y3).cell? ⟨w.heap.size+1,0,none⟩=some y0∧(put4 X (w.heap.size+1) y0 y1 y2 y3).cell? ⟨w.heap.size+1,1,none⟩=some y1∧(put4 X (w.heap.size+1) y0 y1 y2 y3).cell? ⟨w.heap.size+1,2,none⟩=some y2∧(put4 X (w.heap.size+1) y0 y1 y2 y3).cell? ⟨w.heap.size+1,3,none⟩=some y3:=fun X y0 y1 y2 y3 h=>by
  have:=z13 (x0:=y0) (x1:=y1) (x2:=y2) (x3:=y3) h;simp[World.cell?,this]
 have Fin:=zh fin
 by_cases hlong:64<e.v.size
 ·have h0:=hl hlong;obtain⟨_,_,he,hs,_⟩:=hv;injection he with he1 _ he2
  subst he1 he2;obtain⟨g,o,rfl,hc0⟩:=hs.pages h0;have p0:=hc0 0 h0;rw[Nat.add_zero] at p0;have lp:=block_lt_of_cell p0;have hcE:cE e=⟨e.k,ByteArray.empty,(e.v.size:Int),((na e.ch 0:Nat):Int)⟩:=by unfold cE;rw[if_pos hlong]
  rw[hcE];rw[zdt hlong] at Hc;have P0:=zh p0;have hm0:(0:Int)<(e.ch.length:Int):=by omega
  generalize e.ch.length=m at*;generalize na e.ch 0=pg0 at*;clear hcE hW hT hb hW2 hT2 hb2 hs1 hb12 hs hc0 p0 fin hlong hl
  go_enter Tryz.func82,Tryz.ntmps82
  go_wp2_with fail;rw[HW.out];refine Hc.out.mono ?_;rintro r w1 ⟨rfl,hb1⟩;obtain⟨W3,hW3⟩:∃W,w1.drew=W:=⟨_,rfl⟩
  have hd3:Below w1.heap.size w1 W3:=by rw[←hW3];exact(zbr _ _).drew
  have hb13:=hb1.trans (hd3.mono hb1.size);have hg3:W3.heap[w.heap.size]? =some (.cells #[.string e.k,.string e.v,.slice (some ⟨g,o,none⟩) m c] TCT (0,0)):=(hb13.block _ (by omega)).trans HT.out;have hg4:W3.heap[w.heap.size+1]? =some (.cells #[.string ⟨#[]⟩,.string ⟨#[]⟩,.int .i64 0,.int .i64 0] 170 (0,0)):=(hb13.block _ lg).trans HT2.out;have P3:W3.cell? ⟨g,o,none⟩=some (.int .i64 (pg0:Nat)):=by
   have hx:=HB.out.trans (hb13.mono HB.out.size);rw[hx.cell (p:=⟨g,o,none⟩) lp];exact P0.out
  have q0:∀w',Turn (fun i=>i=w.heap.size+1) W3 w'→w'.cell? ⟨w.heap.size,0,none⟩=some (.string e.k):=fun w' t=>by
   have:=t.hg hg3 (by omega);simp[World.cell?,this]
  have q1:∀w',Turn (fun i=>i=w.heap.size+1) W3 w'→w'.cell? ⟨w.heap.size,1,none⟩=some (.string e.v):=fun w' t=>by
   have:=t.hg hg3 (by omega);simp[World.cell?,this]
  have q2:∀w',Turn (fun i=>i=w.heap.size+1) W3 w'→w'.cell? ⟨w.heap.size,2,none⟩=some (.slice (some ⟨g,o,none⟩) m c):=fun w' t=>by
   have:=t.hg hg3 (by omega);simp[World.cell?,this]
  have q3:∀w',Turn (fun i=>i=w.heap.size+1) W3 w'→w'.cell? ⟨g,o,none⟩=some (.int .i64 (pg0:Nat)):=fun w' t=>by
   rw[t.cell (p:=⟨g,o,none⟩) (block_lt_of_cell P3) (by show¬g=w.heap.size+1;omega)];exact P3
  have HW3:=zh hW3;have Hg4:=zh hg4;have Hb3:=zh (HB.out.trans (hb13.mono HB.out.size));clear hW3 hd3 hb13 hg3 hg4 P3 hb1 Hc HT HT2 P0;go_wp2_with fail;refine z0k (F:=fun i=>i=w.heap.size+1) [(0,true),(1,true),(2,true),(3,true),(4,true),(5,true),(6,true),(7,true),(8,true),(9,true),(10,true),(11,true),(12,false)] (by kernel_rfl) (by kernel_rfl) (by kernel_rfl) (by kernel_rfl) (fun _ _ _ _ _ h=>h) ?_;rw[HW3.out];iterate 12 (refine gtr (v:= ?_) rfl (by rfl) ?_ ?_;rotate_left;(intro w' hw';go_simp;with_reducible rfl);simp only[Act.put,zs0,zs1,zs2])
  clear q0 q1 q2 q3;have f:∀i,W3.frozen? ⟨w.heap.size+1,i,none⟩=false:=fun i=>by simp[World.frozen?,Hg4.out]
  have f0:=f 0;have f1:=f 1;have f2:=f 2;have f3:=f 3;have s0:W3.cell? ⟨w.heap.size+1,0,none⟩=some (.string ⟨#[]⟩):=by simp[World.cell?,Hg4.out]
  have s1:W3.cell? ⟨w.heap.size+1,1,none⟩=some (.string ⟨#[]⟩):=by simp[World.cell?,Hg4.out]
  have s2:W3.cell? ⟨w.heap.size+1,2,none⟩=some (.int .i64 0):=by simp[World.cell?,Hg4.out]
  have s3:W3.cell? ⟨w.heap.size+1,3,none⟩=some (.int .i64 0):=by simp[World.cell?,Hg4.out]
  have k:=Fin.out W3 (.string e.k) (.string ByteArray.empty) (.int .i64 (e.v.size:Int)) (.int .i64 (pg0:Nat)) Hg4.out;obtain⟨k0,k1,k2,k3⟩:=k;have HBp:Hid (Below w.heap.size w (put4 W3 (w.heap.size+1) (.string e.k) (.string ByteArray.empty) (.int .i64 (e.v.size:Int)) (.int .i64 (pg0:Nat)))):=z30 Hb3.out (by omega);unfold put4 at k0 k1 k2 k3;clear f Fin Hg4 Hb3;refine gtc rfl (by rfl) (fun K hK=> ?_);go_simp;refine hK _ _ (z1r (x0:=.string e.k) (x1:=.string ByteArray.empty) (x2:=.int .i64 (e.v.size:Int)) (x3:=.int .i64 (pg0:Nat))) ?_;clear hK K;refine z0z ?_;go_wp2_with fail;refine bodyPost_ret (v:=.agg #[.string e.k,.string ByteArray.empty,.int .i64 (e.v.size:Int),.int .i64 (pg0:Nat)]) (by rw[z0c rfl];go_simp;rfl) rfl ⟨rfl,HBp.out⟩
 ·have hcE:cE e=⟨e.k,e.v,(e.v.size:Int),0⟩:=by unfold cE;rw[if_neg hlong]
  rw[hcE];rw[zdf hlong] at Hc;generalize e.ch.length=m at*;clear hcE hW hT hb hW2 hT2 hb2 hs1 hb12 fin hl hv hlong
  go_enter Tryz.func82,Tryz.ntmps82
  go_wp2_with fail;rw[HW.out];refine Hc.out.mono ?_;rintro r w1 ⟨rfl,hb1⟩;have hg3:w1.heap[w.heap.size]? =some (.cells #[.string e.k,.string e.v,.slice a m c] TCT (0,0)):=(hb1.block _ (by omega)).trans HT.out;have hg4:w1.heap[w.heap.size+1]? =some (.cells #[.string ⟨#[]⟩,.string ⟨#[]⟩,.int .i64 0,.int .i64 0] 170 (0,0)):=(hb1.block _ lg).trans HT2.out;have q0:w1.cell? ⟨w.heap.size,0,none⟩=some (.string e.k):=by simp[World.cell?,hg3]
  have q1:w1.cell? ⟨w.heap.size,1,none⟩=some (.string e.v):=by simp[World.cell?,hg3]
  have Hg4:=zh hg4;have Hb3:=zh (HB.out.trans (hb1.mono HB.out.size));clear hg3 hg4 hb1 Hc HT HT2;have f:∀i,w1.frozen? ⟨w.heap.size+1,i,none⟩=false:=fun i=>by simp[World.frozen?,Hg4.out]
  have f0:=f 0;have f1:=f 1;have f2:=f 2;have f3:=f 3;have s0:w1.cell? ⟨w.heap.size+1,0,none⟩=some (.string ⟨#[]⟩):=by simp[World.cell?,Hg4.out]
  have s1:w1.cell? ⟨w.heap.size+1,1,none⟩=some (.string ⟨#[]⟩):=by simp[World.cell?,Hg4.out]
  have s2:w1.cell? ⟨w.heap.size+1,2,none⟩=some (.int .i64 0):=by simp[World.cell?,Hg4.out]
  have s3:w1.cell? ⟨w.heap.size+1,3,none⟩=some (.int .i64 0):=by simp[World.cell?,Hg4.out]
  have k:=Fin.out w1 (.string e.k) (.string e.v) (.int .i64 (e.v.size:Int)) (.int .i64 0) Hg4.out;obtain⟨k0,k1,k2,k3⟩:=k;have HBp:Hid (Below w.heap.size w (put4 w1 (w.heap.size+1) (.string e.k) (.string e.v) (.int .i64 (e.v.size:Int)) (.int .i64 0))):=z30 Hb3.out (by omega);unfold put4 at k0 k1 k2 k3;clear f Fin Hg4 Hb3;go_wp2_with fail;refine bodyPost_ret (v:=.agg #[.string e.k,.string e.v,.int .i64 (e.v.size:Int),.int .i64 0]) (by rw[z0c rfl];go_simp) rfl ⟨rfl,HBp.out⟩
end Go.Proofs.YtdnfhjfbanhhcaaGreatDoor
