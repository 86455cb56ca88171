/-
  Steps.
-/
import Derived.Test.YtdgladhfibfdlaaGreatDoorQPSs27
namespace Go.Proofs.YtdgladhfibfdlaaGreatDoor
open Go Go.RowKit Go.Proofs.Tryz
set_option maxRecDepth 100000
def VB4 (w:World)(b:Nat)(v:NoV):Prop:=w.heap[b]? =some (.cells #[.int .i64 (v.pg:Nat),v.c,v.k,v.p] VT (0,0))
theorem VB4.np {w:World}{b:Nat}{v:NoV}(h:VB4 w b v):NPv w b v:=⟨VT,by simp[nty],h⟩
theorem VB4.ext {w w':World}{b:Nat}{v:NoV}(h:VB4 w b v)(hb:zB w w'):VB4 w' b v:=(hb.block b (zag.1 h).1).trans h
theorem VB4.tur {w w':World}{F:Nat→Prop}{b T:Nat}{v:NoV}(h:VB4 w b v)(ht:Zx F w w')(hF:TyF w F T)(hT:T≠VT):VB4 w' b v:=ht.hg h (hF.not h hT)
theorem x4i (ps:List Nat)(b i:Nat)(h:i<ps.length):na (ps++[b]) i=na ps i:=by
 unfold na;simp[List.getD,List.getElem?_append_left h]
theorem y96 (ps:List Nat)(b:Nat):na (ps++[b]) ps.length=b:=by
 unfold na;simp[List.getD]
theorem z06 (pg:Nat)(vk:Value)(ks:List ByteArray)(a0:Option Addr)(n c0:Nat)(vs:List NoV)(w:World)(hk:EV V5 w vk ks)(hkl:ks.length≤100000)(hn:vs.length=n)(hs:ES Q2 w a0 vs)(hl:n≤100000):
  Calls prog 102 #[.int .i64 (pg:Nat),vk,.slice a0 n c0] w fun e w'=>∃(x:NoV) (ps:List Nat),e=.returned x.v∧x.pg=pg∧x.c=Z0∧EV V5 w' x.k ks∧EV V8 w' x.p ps∧ps.length=n∧(∀i,i<n→VB4 w' (na ps i) (va vs i)∧w.heap.size<na ps i)∧zB w w':=by
 obtain⟨W,hW,hT,hb⟩:=Z1 w VT #[.int .i64 0,Z0,Z0,Z0];have Hc:=zh (JE vk ks W (hk.ext hb) (by omega));have HW:=zh hW;have HB:=zh hb;have HT:=zh hT;have Hn:=zh hn;have Hs:=zh hs;have lg:w.heap.size<W.heap.size:=(zag.1 hT).1;clear hW hT hb hk hkl hn hs
 go_enter func102,ntmps102
 go_wp2_with fail;rw[HW.out];refine Hc.out.mono ?_;rintro e w1 ⟨uk,rfl,hu,hb1⟩;obtain⟨ak,ck,huk,hsk⟩:=hu;subst huk;obtain⟨nk,hnk⟩:∃n,ks.length=n:=⟨_,rfl⟩
 have Hnk:=zh hnk;rw[hnk];have hev1:EV V5 w1 (.slice ak nk ck) ks:=⟨ak,ck,by rw[hnk],hsk⟩
 obtain⟨w2,hw2,ht2,hb2⟩:=Z1 w1 NT #[.int .i64 (pg:Nat),Z0,.slice ak nk ck,Z0];have H6:=zh ((hb2.block _ (Nat.lt_of_lt_of_le lg hb1.size)).trans ((hb1.block _ lg).trans HT.out));have Hev:=zh (hev1.ext hb2);have H7:=zh ht2;have HW2:=zh hw2;have HB2:=zh ((HB.out.trans (hb1.mono HB.out.size)).trans (hb2.mono (HB.out.trans (hb1.mono HB.out.size)).size));have hbt:w.heap.size<w1.heap.size:=Nat.lt_of_lt_of_le lg hb1.size;obtain⟨bt,hbt0⟩:∃bt,w1.heap.size=bt:=⟨_,rfl⟩
 rw[hbt0] at H7 hbt;have Hbt:=zh hbt0;clear hsk hnk hev1 hw2 ht2 hb2 hb1 hbt0 Hc HT;go_wp2_with fail;rw[Hbt.out,HW2.out]
 go_loopw [9,16] (fun _ i wr=>∃(k:Nat) (ps:List Nat) (u:Value),i=.int .i64 k∧k≤n∧ps.length=k∧Hid (wr.heap[bt]? =some (.cells #[.int .i64 (pg:Nat),Z0,.slice ak nk ck,u] NT (0,0))∧wr.heap[w.heap.size]? =some (.cells #[.int .i64 0,Z0,Z0,Z0] VT (0,0)))∧
  Hid (wr.ownsRow w.heap.size PNT V8.sz u k (V8.row ps))∧Hid (EV V5 wr (.slice ak nk ck) ks)∧Hid (∀i,i<k→VB4 wr (na ps i) (va vs i)∧w.heap.size<na ps i)∧Hid (zB w wr)) (fun _ i _=>n-(intOf i).toNat)
 case atStart=>exact⟨0,[],Z0,rfl,by omega,rfl,⟨H7.out,H6.out⟩,World.ownsRow_nil _ _ _ _,Hev,(fun i hi=>by omega),HB2⟩
 case round=>
  obtain⟨k,ps,u,rfl,hk,hpl,hblk,hown,hev,hvb,hB⟩:=hrel
  by_cases hlt:k<n
  ·obtain⟨g,o,rfl,hcell⟩:=(Hs.out.below hB.out (zlr _)).nods (by rw[Hn.out];omega);obtain⟨p0,p1,p2,p3⟩:=hcell k (by rw[Hn.out];exact hlt);obtain⟨ua,uc,hu⟩:∃ua uc,u=.slice ua k uc:=by
    rcases hown.out.2 with ⟨h1,h2⟩|⟨g2,cap,cur,h1,_⟩
    ·exact⟨none,0,by rw[h1,h2]⟩
    ·exact⟨_,cap,h1⟩
   subst hu;have hsz:=hB.out.size;have lbt:bt<wr.heap.size:=(zag.1 hblk.out.1).1
   --the kid's own block
   obtain⟨w3,hw3,hv3,hb3⟩:=Z1 wr VT #[.int .i64 ((va vs k).pg:Nat),(va vs k).c,(va vs k).k,(va vs k).p];obtain⟨w4,hw4,hv4,hb4⟩:=Z1 w3 PNT #[pt wr.heap.size];have hs3:w3.heap.size=wr.heap.size+1:=by rw[←hw3];simp
   have hb34:=hb3.trans (hb4.mono hb3.size);have hlit:ES V8 w4 (some ⟨wr.heap.size+1,0,none⟩) [wr.heap.size]:=by
    rw[←hs3];exact ES.lit (E:=V8) (l:=[wr.heap.size]) hv4
   have hown4:=Y4 hown.out hb34 (zlr _);have htt:=TyF.own hown4;obtain⟨v1,w5,hrun,hb5,ht5,ho5⟩:=Ok (P:=prog) (w:=w4) (E:=V8) w.heap.size 93 93 PNT underlying93 y0z (.slice ua k uc) k ps hown4 (by have:=hb34.size;omega) (some ⟨wr.heap.size+1,0,none⟩) 1 1 [wr.heap.size] rfl (by omega) hlit (by unfold maxLen;omega) (by show _*8≤_;omega);have hblk4:w4.heap[bt]? =some (.cells #[.int .i64 (pg:Nat),Z0,.slice ak nk ck,.slice ua k uc] NT (0,0)):=(hb34.block bt lbt).trans hblk.out.1;have l6:w.heap.size<wr.heap.size:=by omega
   have h64:w4.heap[w.heap.size]? =some (.cells #[.int .i64 0,Z0,Z0,Z0] VT (0,0)):=(hb34.block _ l6).trans hblk.out.2;have hblk5:=ht5.hg hblk4 (htt.not hblk4 (by decide));have h65:=ht5.hg h64 (htt.not h64 (by decide));have hvb5:∀i,i<k+1→VB4 w5 (na (ps++[wr.heap.size]) i) (va vs i)∧w.heap.size<na (ps++[wr.heap.size]) i:=fun i hi=>by
    rcases zng i k with h1|h1
    ·rw[x4i ps _ i (by omega)];exact⟨((hvb.out i h1).1.ext hb34).tur ht5 htt (by decide),(hvb.out i h1).2⟩
    ·obtain rfl:i=k:=by omega
     rw[←hpl,y96,hpl];exact⟨(VB4.ext (w:=w3) hv3 hb4).tur ht5 htt (by decide),l6⟩
   have hev5:=((hev.out.ext hb34).tur ht5 htt rfl)
   have hB5:=(hB.out.trans (hb34.mono hsz)).trans hb5;obtain⟨va1,vc1,hv1⟩:∃a c,v1=.slice a (k+1) c:=by
    rcases ho5.2 with ⟨h1,h2⟩|⟨g2,cap,cur,h1,_⟩
    ·omega
    ·exact⟨_,cap,h1⟩
   subst hv1
   --the store into the field of kids
   have hst:Zx (fun i=>i=bt) w5 (w5.setCell ⟨bt,3,none⟩ (.slice va1 (k+1) vc1)):=(Zx.refl (fun i=>i=bt) w5).setCell (p:=⟨bt,3,none⟩) _ (fun _=>rfl);have htb:=TyF.one hblk5;have R1:Hid ((w5.setCell ⟨bt,3,none⟩ (.slice va1 (k+1) vc1)).heap[bt]? =some (.cells #[.int .i64 (pg:Nat),Z0,.slice ak nk ck,.slice va1 (k+1) vc1] NT (0,0))∧(w5.setCell ⟨bt,3,none⟩ (.slice va1 (k+1) vc1)).heap[w.heap.size]? =some (.cells #[.int .i64 0,Z0,Z0,Z0] VT (0,0))):=
    ⟨heap_setCell_same w5 bt 3 _ NT _ hblk5,hst.hg h65 (by omega)⟩
   have R2:Hid ((w5.setCell ⟨bt,3,none⟩ (.slice va1 (k+1) vc1)).ownsRow w.heap.size PNT V8.sz (.slice va1 (k+1) vc1) (k+1) (V8.row (ps++[wr.heap.size]))):=Sq ho5 hst htb (by decide);have R3:=zh (hev5.tur hst htb rfl);have R4:Hid (∀i,i<k+1→VB4 (w5.setCell ⟨bt,3,none⟩ (.slice va1 (k+1) vc1)) (na (ps++[wr.heap.size]) i) (va vs i)∧w.heap.size<na (ps++[wr.heap.size]) i):=fun i hi=>⟨(hvb5 i hi).1.tur hst htb (by decide),(hvb5 i hi).2⟩
   have R5:=zh (hB5.setCell (p:=⟨bt,3,none⟩) (show w.heap.size≤bt by omega) (.slice va1 (k+1) vc1));have hpl2:(ps++[wr.heap.size]).length=k+1:=by rw[zla,hpl];rfl
   have Q:=zh hw3;have Q4:Hid ((wr.alloc (.cells #[.int .i64 ((va vs k).pg:Nat),(va vs k).c,(va vs k).k,(va vs k).p] VT)).alloc (.cells #[pt wr.heap.size] PNT)=w4):=by show _=_;rw[hw3,hw4]
   have t0:w4.cell? ⟨bt,3,none⟩=some (.slice ua k uc):=by simp[World.cell?,hblk4]
   have t1:w5.cell? ⟨bt,3,none⟩=some (.slice ua k uc):=by simp[World.cell?,hblk5]
   have t2:w5.frozen? ⟨bt,3,none⟩=false:=by simp[World.frozen?,hblk5]
   have t3:wr.cell? ⟨bt,3,none⟩=some (.slice ua k uc):=by simp[World.cell?,hblk.out.1]
   have Hhk:=zh hpl2;rw[←Q4.out] at hrun;generalize hfk2:va vs k=x at*;obtain⟨xg,xa,xn,xc,ya,yn,yc,za,zn,zc⟩:=x;dsimp only[NoV.c,NoV.k,NoV.p,NoV.v] at*;clear hcell hw3 hv3 hb3 hw4 hv4 hb4 hs3 hb34 hlit hown4 htt hb5 ht5 ho5 hblk4 h64 hblk5 h65 hvb5 hev5 hB5 hst htb hblk hown hev hvb hB hfk2 hpl2 t0 Q4 Q
   go_wp2_with (at_builtin;refine Lib.wpList_append_run _ rfl (.tmp 21) (.tmp 23) _ _ rfl _ _ (by rfl) (by rfl) _ _ hrun ?_)
   clear hrun p0 p1 p2 p3 t3;go_wp2_with fail
   go_roundw
   case rel=>exact⟨k+1,ps++[wr.heap.size],.slice va1 (k+1) vc1,by go_num,by omega,Hhk.out,R1,R2,R3,R4,R5⟩
   case measure=>simp[intOf];omega
  ·obtain rfl:k=n:=by omega
   obtain⟨ua,uc,hu⟩:∃ua uc,u=.slice ua k uc:=by
    rcases hown.out.2 with ⟨h1,h2⟩|⟨g2,cap,cur,h1,_⟩
    ·exact⟨none,0,by rw[h1,h2]⟩
    ·exact⟨_,cap,h1⟩
   subst hu;have H:=zh hblk.out;have t0:wr.cell? ⟨bt,0,none⟩=some (.int .i64 (pg:Nat)):=by simp[World.cell?,H.out.1]
   have t1:wr.cell? ⟨bt,1,none⟩=some Z0:=by simp[World.cell?,H.out.1]
   have t2:wr.cell? ⟨bt,2,none⟩=some (.slice ak nk ck):=by simp[World.cell?,H.out.1]
   have t3:wr.cell? ⟨bt,3,none⟩=some (.slice ua k uc):=by simp[World.cell?,H.out.1]
   have s0:wr.cell? ⟨w.heap.size,0,none⟩=some (.int .i64 0):=by simp[World.cell?,H.out.2]
   have s1:wr.cell? ⟨w.heap.size,1,none⟩=some Z0:=by simp[World.cell?,H.out.2]
   have s2:wr.cell? ⟨w.heap.size,2,none⟩=some Z0:=by simp[World.cell?,H.out.2]
   have s3:wr.cell? ⟨w.heap.size,3,none⟩=some Z0:=by simp[World.cell?,H.out.2]
   have f:∀i,wr.frozen? ⟨w.heap.size,i,none⟩=false:=fun i=>by simp[World.frozen?,H.out.2]
   have f0:=f 0;have f1:=f 1;have f2:=f 2;have f3:=f 3;have hp:=U6 (x0:=.int .i64 (pg:Nat)) (x1:=Z0) (x2:=.slice ak nk ck) (x3:=.slice ua k uc) H.out.2;have k0:(Uv wr w.heap.size (.int .i64 (pg:Nat)) Z0 (.slice ak nk ck) (.slice ua k uc)).cell? ⟨w.heap.size,0,none⟩=some (.int .i64 (pg:Nat)):=by simp[World.cell?,hp]
   have k1:(Uv wr w.heap.size (.int .i64 (pg:Nat)) Z0 (.slice ak nk ck) (.slice ua k uc)).cell? ⟨w.heap.size,1,none⟩=some Z0:=by simp[World.cell?,hp]
   have k2:(Uv wr w.heap.size (.int .i64 (pg:Nat)) Z0 (.slice ak nk ck) (.slice ua k uc)).cell? ⟨w.heap.size,2,none⟩=some (.slice ak nk ck):=by simp[World.cell?,hp]
   have k3:(Uv wr w.heap.size (.int .i64 (pg:Nat)) Z0 (.slice ak nk ck) (.slice ua k uc)).cell? ⟨w.heap.size,3,none⟩=some (.slice ua k uc):=by simp[World.cell?,hp]
   unfold Uv at k0 k1 k2 k3;have htb:=TyF.one H.out.2;have R1:=zh (Sq hown.out (U7 (x0:=.int .i64 (pg:Nat)) (x1:=Z0) (x2:=.slice ak nk ck) (x3:=.slice ua k uc)) htb (by decide));have R2:=zh (hev.out.tur (U7 (x0:=.int .i64 (pg:Nat)) (x1:=Z0) (x2:=.slice ak nk ck) (x3:=.slice ua k uc)) htb rfl);have R3:Hid (∀i,i<k→VB4 (Uv wr w.heap.size (.int .i64 (pg:Nat)) Z0 (.slice ak nk ck) (.slice ua k uc)) (na ps i) (va vs i)∧w.heap.size<na ps i):=fun i hi=>by
    obtain⟨h1,h2⟩:=hvb.out i hi;have h1':wr.heap[na ps i]? =_:=h1;exact⟨U7.hg h1' (by omega),h2⟩
   have R4:=zh (Sj (x0:=.int .i64 (pg:Nat)) (x1:=Z0) (x2:=.slice ak nk ck) (x3:=.slice ua k uc) hB.out (zlr w.heap.size));have Hpl:=zh hpl;clear f hp hown hev hvb hB hblk htb hpl;go_wp2_with fail;refine bodyPost_ret (v:=.agg #[.int .i64 (pg:Nat),Z0,.slice ak nk ck,.slice ua k uc]) (by rw[Yk rfl];go_simp) rfl ⟨⟨pg,none,0,0,ak,nk,ck,ua,k,uc⟩,ps,rfl,rfl,rfl,R2.out,?_,Hpl.out,R3.out,R4.out⟩;have h1:=R1.out;rw[←Hpl.out] at h1;have h2:=U3 (T:=PNT) h1;rw[Hpl.out] at h2;exact h2
def Dk (w:World):Nat→SB→SB→NoV→Tr→Prop
 | 0,lo,hi,v,t=>∃es,t=.leaf v.pg es∧v.k=Z0∧v.p=Z0∧CV w v.c es∧ltO lo hi∧srt es∧∀x∈es,okE x∧ins lo hi x.k
 | h+1,lo,hi,v,t=>∃ks ps ts,t=.bran v.pg ks ts∧v.c=Z0∧EV V5 w v.k ks∧EV V8 w v.p ps∧X8 (X2 w h) ks lo hi ps ts
theorem Dk.ext {w w':World}(hb:zB w w'){h:Nat}{lo hi:SB}{v:NoV}{t:Tr}(hn:Dk w h lo hi v t):Dk w' h lo hi v t:=by
 cases h with
 | zero=>
  obtain⟨es,h0,h1,h2,h3,h4⟩:=hn;exact⟨es,h0,h1,h2,h3.ext hb,h4⟩
 | succ h=>
  obtain⟨ks,ps,ts,h0,h1,h2,h3,hr⟩:=hn;exact⟨ks,ps,ts,h0,h1,h2.ext hb,h3.ext hb,hr.mono (fun _ _ _ _ h5=>h5.ext hb)⟩
theorem NdT.val {w:World}{h:Nat}{lo hi:SB}{b:Nat}{t:Tr}(hn:NdT w h lo hi b t):∃v:NoV,NPv w b v∧Dk w h lo hi v t:=by
 cases h with
 | zero=>
  obtain⟨pg,es,rfl,⟨vc,np,a,c,rfl,h3⟩,h4⟩:=hn;exact⟨⟨pg,a,es.length,c,none,0,0,none,0,0⟩,np,es,rfl,rfl,rfl,⟨a,c,rfl,h3⟩,h4⟩
 | succ h=>
  obtain⟨pg,ks,ps,ts,rfl,⟨vk,vp,np,⟨a,c,rfl,h3⟩,⟨a',c',rfl,h4⟩⟩,h5⟩:=hn;exact⟨⟨pg,none,0,0,a,ks.length,c,a',ps.length,c'⟩,np,ks,ps,ts,rfl,rfl,⟨a,c,rfl,h3⟩,⟨a',c',rfl,h4⟩,h5⟩
theorem Dk.node {w:World}{h:Nat}{lo hi:SB}{b:Nat}{v:NoV}{t:Tr}(hb:NPv w b v)(hn:Dk w h lo hi v t):NdT w h lo hi b t:=by
 cases h with
 | zero=>
  obtain⟨es,rfl,h1,h2,h3,h4⟩:=hn;unfold NPv at hb;rw[h1,h2] at hb;exact⟨v.pg,es,rfl,⟨v.c,hb,h3⟩,h4⟩
 | succ h=>
  obtain⟨ks,ps,ts,rfl,h1,h2,h3,hr⟩:=hn;unfold NPv at hb;rw[h1] at hb;exact⟨v.pg,ks,ps,ts,rfl,⟨v.k,v.p,hb,h2,h3⟩,hr⟩
theorem Dk.pg {w:World}{h:Nat}{lo hi:SB}{v:NoV}{t:Tr}(hn:Dk w h lo hi v t):t.pg=v.pg:=by
 cases h with
 | zero=>obtain⟨es,rfl,_⟩:=hn;rfl
 | succ h=>obtain⟨ks,ps,ts,rfl,_⟩:=hn;rfl
theorem Dk.nd {w:World}{h:Nat}{lo hi:SB}{v:NoV}{t:Tr}(hn:Dk w h lo hi v t):∃W,w.alloc (.cells #[.int .i64 (v.pg:Nat),v.c,v.k,v.p] VT)=W∧NdT W h lo hi w.heap.size t∧NPv W w.heap.size v∧zB w W:=by
 obtain⟨W,hW,hV,hb⟩:=x4h w v;exact⟨W,hW,(hn.ext hb).node hV,hV,hb⟩
theorem y5t {h:Nat}(v:NoV)(t:Tr)(w:World)(hn:Dk w h none none v t)(hz:t.sz≤504)(hz3:0<h→3≤t.sz)(hne:t.es≠[])(hl:t.es.length≤100000):
  Calls prog 47 #[v.v] w fun e w'=>∃p,e=.returned (.agg #[.pointer p,.int .i64 (t.es.length:Nat)])∧Y6 w' p [t] (h+1)∧zB w w':=by
 obtain⟨W1,hW1,hT1,_,hb1⟩:=hn.nd;obtain⟨W2,hW2,hT2,hb2⟩:=Z1 W1 TT #[.pointer none,.int .i64 0];obtain⟨W3,hW3,hT3,hb3⟩:=Z1 W2 TT #[pt w.heap.size,.int .i64 0];have hs1:W1.heap.size=w.heap.size+1:=by rw[←hW1];simp
 have hs2:W2.heap.size=w.heap.size+2:=by rw[←hW2];simp[hs1]
 have hb23:=hb2.trans (hb3.mono hb2.size);have hb123:=hb1.trans (hb23.mono hb1.size);have hn3:NdT W3 h none none w.heap.size t:=NdT.ext hb23 h hT1;have hT2':TB W3 (w.heap.size+1) none 0:=by rw[←hs1];exact TB.ext (w:=W2) hT2 hb3
 have hT3':TB W3 (w.heap.size+2) (some ⟨w.heap.size,0,none⟩) 0:=by rw[←hs2];exact hT3
 have hg:=Lu W3 h none none w.heap.size t.es t.sz Z0 [] W3 (NdT.nd h hn3) (by omega) (zbr _ _) (World.ownsRow_nil _ _ _ _) (by simp;omega);have Hg:=zh hg;have HW:Hid (((w.alloc (.cells #[.int .i64 (v.pg:Nat),v.c,v.k,v.p] VT)).alloc (.cells #[.pointer none,.int .i64 0] TT)).alloc (.cells #[pt w.heap.size,.int .i64 0] TT)=W3):=by show _=_;rw[hW1,hW2,hW3]
 have HB:=zh hb123;have Hn3:=zh hn3;have H2:=zh hT2';have H3:=zh hT3';have Hz:=zh (zai hz (zai hz3 hne));have q0:=hT3'.c0;have q1:=hT3'.c1;obtain⟨n,hn9⟩:∃n,t.es.length=n:=⟨_,rfl⟩
 have Hn:=zh hn9;rw[hn9] at hl⊢
 clear hn hW1 hT1 hb1 hW2 hT2 hb2 hW3 hT3 hb3 hs1 hs2 hb23 hb123 hn3 hT2' hT3' hg hz hz3 hne hn9;obtain⟨pg,ca,cn,cc,ka,kn,kc,pa,pn,pc⟩:=v;dsimp only[NoV.c,NoV.k,NoV.p,NoV.v] at*
 go_enter func47,ntmps47
 go_wp2_with fail;rw[HW.out];refine Hg.out.mono ?_;rintro e w4 ⟨u,rfl,ho,hb4,hb5⟩;obtain⟨ua,uc,hu⟩:∃ua uc,u=.slice ua n uc:=by
  have ho':=ho;simp only[List.length_nil,Nat.zero_add,List.nil_append] at ho';rw[Hn.out] at ho'
  rcases ho'.2 with ⟨h1,h2⟩|⟨g2,cap,cur,h1,_⟩
  ·exact⟨none,0,by rw[h1,h2]⟩
  ·exact⟨_,cap,h1⟩
 subst hu;have h24:=H2.out.ext hb5;have h34:=H3.out.ext hb5;have HB4:=zh (HB.out.trans (hb5.mono HB.out.size));have Hn4:=zh (NdT.ext hb5 h Hn3.out);have c0:=h34.c0;have c1:=h34.c1;have f1:=h34.fz 1;have g0:=h24.c0;have g1:=h24.c1;have G0:=h24.fz 0;have G1:=h24.fz 1;have H24:=zh h24;have H34:=zh h34;have t1:Zx (fun i=>i=w.heap.size+2) w4 (w4.setCell ⟨w.heap.size+2,1,none⟩ (.int .i64 (n:Int))):=(Zx.refl (fun i=>i=w.heap.size+2) w4).setCell (p:=⟨w.heap.size+2,1,none⟩) _ (fun _=>rfl);have hA:TB (w4.setCell ⟨w.heap.size+2,1,none⟩ (.int .i64 (n:Int))) (w.heap.size+2) (some ⟨w.heap.size,0,none⟩) n:=heap_setCell_same w4 (w.heap.size+2) 1 _ _ _ h34;have hB:TB (w4.setCell ⟨w.heap.size+2,1,none⟩ (.int .i64 (n:Int))) (w.heap.size+1) none 0:=h24.turn t1 (by omega);have hN:=(NdT.turn t1 (TF.one h34) h Hn4.out)
 have hN2:=zh (NdT.turn (Yv (w4.setCell ⟨w.heap.size+2,1,none⟩ (.int .i64 (n:Int))) (w.heap.size+1) (.pointer (some ⟨w.heap.size,0,none⟩)) (.int .i64 (n:Int))) (TF.one hB) h hN);have hBl:Hid (zB w (((w4.setCell ⟨w.heap.size+2,1,none⟩ (.int .i64 (n:Int))).setCell ⟨w.heap.size+1,0,none⟩ (.pointer (some ⟨w.heap.size,0,none⟩))).setCell ⟨w.heap.size+1,1,none⟩ (.int .i64 (n:Int)))):=X4 (HB4.out.setCell (p:=⟨w.heap.size+2,1,none⟩) (by show w.heap.size≤w.heap.size+2;omega) _) (by omega);have m0:=hA.c0;have m1:=hA.c1;have u0:=hB.c0;have u1:=hB.c1;have v0:=hB.fz 0;have v1:=hB.fz 1;have HP:=zh (hB.put (some ⟨w.heap.size,0,none⟩) n);have x0:=HP.out.c0;have x1:=HP.out.c1;clear ho hb4 hb5 h24 h34 Hg q0 q1 t1 hA hB hN;go_wp2_with fail;refine bodyPost_ret (v:=.agg #[pt w.heap.size,.int .i64 (n:Int)]) (by rw[Yk rfl];go_simp) rfl ⟨some ⟨w.heap.size,0,none⟩,rfl,.inr ⟨w.heap.size,h,t,rfl,rfl,hN2.out,Hz.out.1,Hz.out.2.1,Hz.out.2.2,rfl⟩,hBl.out⟩
theorem y2c {w:World}{a:Option Addr}{n c:Nat}{es:List En}(h:CV w (.slice a n c) es)(h0:0<es.length):∃g o,a=some ⟨g,o,none⟩∧∀i,i<es.length→w.cell? ⟨g,o+i*3,none⟩=some (.string (ea es i).k)∧w.cell? ⟨g,o+i*3+1,none⟩=some (.string (ea es i).v)∧
  ∃v,w.cell? ⟨g,o+i*3+2,none⟩=some v∧EV pgE w v (ea es i).ch:=by
 obtain⟨a',c',h1,hs,_⟩:=h;injection h1 with h1 _ _
 subst h1;exact hs.ents h0
theorem Kk (v:NoV)(w:World):Calls prog 66 #[v.v] w fun e w'=>e=.returned (.bool (!decide (v.pg=0)))∧zB w w':=by
 obtain⟨W,hW,hV,hb⟩:=x4h w v;have Hc:=zh (Nz v W);have HW:=zh hW;have HB:=zh hb;obtain⟨D,hD⟩:∃D,(!decide (v.pg=0))=D:=⟨_,rfl⟩
 have hd:(((v.pg:Nat):Int) !=0)=D:=by
  rw[←hD]
  by_cases h:v.pg=0
  ·rw[h];rfl
  ·rw[zdf h,bne_iff_ne.2 (by omega)];rfl
 rw[hD];clear hW hV hb hD;obtain⟨pg,ca,cn,cc,ka,kn,kc,pa,pn,pc⟩:=v;dsimp only[NoV.c,NoV.k,NoV.p,NoV.v] at*
 go_enter func66,ntmps66
 go_wp2_with fail;rw[HW.out];refine Hc.out.mono ?_;rintro e w' ⟨rfl,hb⟩;have Hb:=zh (HB.out.trans (hb.mono HB.out.size));clear hb;go_wp2;go_ret;exact⟨rfl,Hb.out⟩
theorem JM (k v:ByteArray)(a:Option Addr)(n c:Nat)(w:World):Calls prog 94 #[.agg #[.string k,.string v,.slice a n c]] w fun e w'=>e=.returned (.bool (decide (64<v.size)))∧zB w w':=by
 obtain⟨D,hD⟩:∃D,decide (64<v.size)=D:=⟨_,rfl⟩
 have hd:decide ((64:Int)<(v.size:Int))=D:=by
  rw[←hD];rw[decide_eq_decide];omega
 rw[hD];clear hD
 go_enter func94,ntmps94
 go_wp2;go_ret;exact⟨rfl,(zbr _ _).alloc (zlr _) _⟩
theorem z07 (k v:ByteArray)(a:Option Addr)(n c:Nat)(w:World):Calls prog 68 #[.agg #[.string k,.string v,.slice a n c]] w fun e w'=>e=.returned (.bool (decide (64<v.size)&&decide (n=0)))∧zB w w':=by
 obtain⟨W,hW,hT,hb⟩:=Z1 w TCT #[.string k,.string v,.slice a n c];have Hc:=zh (JM k v a n c W);have HW:=zh hW;have HB:=zh hb;have HT:=zh hT;have lg:w.heap.size<W.heap.size:=(zag.1 hT).1;obtain⟨D,hD⟩:∃D,decide (64<v.size)=D:=⟨_,rfl⟩
 obtain⟨D2,hD2⟩:∃D,decide (n=0)=D:=⟨_,rfl⟩
 have hd:((n:Int)==0)=D2:=by
  rw[←hD2]
  by_cases h:n=0
  ·rw[h];rfl
  ·rw[zdf h,beq_eq_false_iff_ne];omega
 rw[hD] at Hc;rw[hD,hD2];clear hD hD2 hW hT hb
 go_enter func68,ntmps68
 go_wp2_with fail;rw[HW.out];refine Hc.out.mono ?_;rintro e w1 ⟨rfl,hb1⟩;have hg:w1.heap[w.heap.size]? =some (.cells #[.string k,.string v,.slice a n c] TCT (0,0)):=(hb1.block _ lg).trans HT.out;have c2:w1.cell? ⟨w.heap.size,2,none⟩=some (.slice a n c):=by simp[World.cell?,hg]
 have Hb:=zh (HB.out.trans (hb1.mono HB.out.size));clear hb1 hg Hc
 cases D with
 | true=>
  go_wp2;go_ret;exact⟨rfl,Hb.out⟩
 | false=>
  go_wp2;go_ret;exact⟨rfl,Hb.out⟩
def ceV (c:Ce):Value:=.agg #[.string c.k,.string c.v,.int .i64 c.n,.int .i64 c.p]
theorem z3h (e:En)(a:Option Addr)(c:Nat)(w:World)(hv:EV pgE w (.slice a e.ch.length c) e.ch)(hl:64<e.v.size→0<e.ch.length):Calls prog 97 #[.agg #[.string e.k,.string e.v,.slice a e.ch.length c]] w fun r w'=>r=.returned (ceV (cE e))∧zB w w':=by
 obtain⟨W,hW,hT,hb⟩:=Z1 w TCT #[.string e.k,.string e.v,.slice a e.ch.length c];obtain⟨W2,hW2,hT2,hb2⟩:=Z1 W 182 #[.string ⟨#[]⟩,.string ⟨#[]⟩,.int .i64 0,.int .i64 0];have hs1:W.heap.size=w.heap.size+1:=by rw[←hW];simp
 have hb12:=hb.trans (hb2.mono hb.size);have Hc:=zh (JM e.k e.v a e.ch.length c W2);have HW:Hid ((w.alloc (.cells #[.string e.k,.string e.v,.slice a e.ch.length c] TCT)).alloc (.cells #[.string ⟨#[]⟩,.string ⟨#[]⟩,.int .i64 0,.int .i64 0] 182)=W2):=by show _=_;rw[hW,hW2]
 have HB:=zh hb12;have HT:=zh ((hb2.block _ (zag.1 hT).1).trans hT);rw[hs1] at hT2;have HT2:=zh hT2;have lg:w.heap.size+1<W2.heap.size:=(zag.1 hT2).1;have hdrew:∀(X:World),zB X X.drew:=fun X=>(zbr _ _).drew
 have fin:∀(X:World) (y0 y1 y2 y3:Value),X.heap[w.heap.size+1]? =some (.cells #[.string ⟨#[]⟩,.string ⟨#[]⟩,.int .i64 0,.int .i64 0] 182 (0,0))→(Uv X (w.heap.size+1) y0 y1 y2 y3).cell? ⟨w.heap.size+1,0,none⟩=some y0∧(Uv X (w.heap.size+1) y0 y1 y2 y3).cell? ⟨w.heap.size+1,1,none⟩=some y1∧(Uv X (w.heap.size+1) y0 y1 y2 y3).cell? ⟨w.heap.size+1,2,none⟩=some y2∧(Uv X (w.heap.size+1) y0 y1 y2 y3).cell? ⟨w.heap.size+1,3,none⟩=some y3:=fun X y0 y1 y2 y3 h=>by
  have:=U6 (x0:=y0) (x1:=y1) (x2:=y2) (x3:=y3) h;simp[World.cell?,this]
 have Fin:=zh fin
 by_cases hlong:64<e.v.size
 ·have h0:=hl hlong;obtain⟨_,_,he,hs,_⟩:=hv;injection he with he1 _ he2
  subst he1 he2;obtain⟨g,o,rfl,hc0⟩:=hs.pages h0;have p0:=hc0 0 h0;rw[Nat.add_zero] at p0;have lp:=block_lt_of_cell p0;have hcE:cE e=⟨e.k,ByteArray.empty,(e.v.size:Int),((na e.ch 0:Nat):Int)⟩:=by unfold cE;rw[if_pos hlong]
  rw[hcE];rw[zdt hlong] at Hc;have P0:=zh p0;have hm0:(0:Int)<(e.ch.length:Int):=by omega
  generalize e.ch.length=m at*;generalize na e.ch 0=pg0 at*;clear hcE hW hT hb hW2 hT2 hb2 hs1 hb12 hs hc0 p0 fin hlong hl
  go_enter func97,ntmps97
  go_wp2_with fail;rw[HW.out];refine Hc.out.mono ?_;rintro r w1 ⟨rfl,hb1⟩;obtain⟨W3,hW3⟩:∃W,w1.drew=W:=⟨_,rfl⟩
  have hd3:zB w1 W3:=by rw[←hW3];exact(zbr _ _).drew
  have hb13:=hb1.trans (hd3.mono hb1.size);have hg3:W3.heap[w.heap.size]? =some (.cells #[.string e.k,.string e.v,.slice (some ⟨g,o,none⟩) m c] TCT (0,0)):=(hb13.block _ (by omega)).trans HT.out;have hg4:W3.heap[w.heap.size+1]? =some (.cells #[.string ⟨#[]⟩,.string ⟨#[]⟩,.int .i64 0,.int .i64 0] 182 (0,0)):=(hb13.block _ lg).trans HT2.out;have P3:W3.cell? ⟨g,o,none⟩=some (.int .i64 (pg0:Nat)):=by
   have hx:=HB.out.trans (hb13.mono HB.out.size);rw[hx.cell (p:=⟨g,o,none⟩) lp];exact P0.out
  have q0:∀w',Zx (fun i=>i=w.heap.size+1) W3 w'→w'.cell? ⟨w.heap.size,0,none⟩=some (.string e.k):=fun w' t=>by
   have:=t.hg hg3 (by omega);simp[World.cell?,this]
  have q1:∀w',Zx (fun i=>i=w.heap.size+1) W3 w'→w'.cell? ⟨w.heap.size,1,none⟩=some (.string e.v):=fun w' t=>by
   have:=t.hg hg3 (by omega);simp[World.cell?,this]
  have q2:∀w',Zx (fun i=>i=w.heap.size+1) W3 w'→w'.cell? ⟨w.heap.size,2,none⟩=some (.slice (some ⟨g,o,none⟩) m c):=fun w' t=>by
   have:=t.hg hg3 (by omega);simp[World.cell?,this]
  have q3:∀w',Zx (fun i=>i=w.heap.size+1) W3 w'→w'.cell? ⟨g,o,none⟩=some (.int .i64 (pg0:Nat)):=fun w' t=>by
   rw[t.cell (p:=⟨g,o,none⟩) (block_lt_of_cell P3) (by show¬g=w.heap.size+1;omega)];exact P3
  have HW3:=zh hW3;have Hg4:=zh hg4;have Hb3:=zh (HB.out.trans (hb13.mono HB.out.size));clear hW3 hd3 hb13 hg3 hg4 P3 hb1 Hc HT HT2 P0;go_wp2_with fail;refine rgt (F:=fun i=>i=w.heap.size+1) [(0,true),(1,true),(2,true),(3,true),(4,true),(5,true),(6,true),(7,true),(8,true),(9,true),(10,true),(11,true),(12,false)] (h:= ?_);rw[HW3.out];iterate 12 (refine gtr (v:= ?_) rfl (by rfl) ?_ ?_;rotate_left;(intro w' hw';go_simp;with_reducible rfl);simp only[Act.put,zs0,zs1,zs2])
  clear q0 q1 q2 q3;have f:∀i,W3.frozen? ⟨w.heap.size+1,i,none⟩=false:=fun i=>by simp[World.frozen?,Hg4.out]
  have f0:=f 0;have f1:=f 1;have f2:=f 2;have f3:=f 3;have s0:W3.cell? ⟨w.heap.size+1,0,none⟩=some (.string ⟨#[]⟩):=by simp[World.cell?,Hg4.out]
  have s1:W3.cell? ⟨w.heap.size+1,1,none⟩=some (.string ⟨#[]⟩):=by simp[World.cell?,Hg4.out]
  have s2:W3.cell? ⟨w.heap.size+1,2,none⟩=some (.int .i64 0):=by simp[World.cell?,Hg4.out]
  have s3:W3.cell? ⟨w.heap.size+1,3,none⟩=some (.int .i64 0):=by simp[World.cell?,Hg4.out]
  have k:=Fin.out W3 (.string e.k) (.string ByteArray.empty) (.int .i64 (e.v.size:Int)) (.int .i64 (pg0:Nat)) Hg4.out;obtain⟨k0,k1,k2,k3⟩:=k;have HBp:Hid (zB w (Uv W3 (w.heap.size+1) (.string e.k) (.string ByteArray.empty) (.int .i64 (e.v.size:Int)) (.int .i64 (pg0:Nat)))):=Sj Hb3.out (by omega);unfold Uv at k0 k1 k2 k3;clear f Fin Hg4 Hb3;refine gtc rfl (by rfl) (fun K hK=> ?_);go_simp;refine hK _ _ (U7 (x0:=.string e.k) (x1:=.string ByteArray.empty) (x2:=.int .i64 (e.v.size:Int)) (x3:=.int .i64 (pg0:Nat))) ?_;clear hK K;refine Yj ?_;go_wp2_with fail;refine bodyPost_ret (v:=.agg #[.string e.k,.string ByteArray.empty,.int .i64 (e.v.size:Int),.int .i64 (pg0:Nat)]) (by rw[Yk rfl];go_simp;rfl) rfl ⟨rfl,HBp.out⟩
 ·have hcE:cE e=⟨e.k,e.v,(e.v.size:Int),0⟩:=by unfold cE;rw[if_neg hlong]
  rw[hcE];rw[zdf hlong] at Hc;generalize e.ch.length=m at*;clear hcE hW hT hb hW2 hT2 hb2 hs1 hb12 fin hl hv hlong
  go_enter func97,ntmps97
  go_wp2_with fail;rw[HW.out];refine Hc.out.mono ?_;rintro r w1 ⟨rfl,hb1⟩;have hg3:w1.heap[w.heap.size]? =some (.cells #[.string e.k,.string e.v,.slice a m c] TCT (0,0)):=(hb1.block _ (by omega)).trans HT.out;have hg4:w1.heap[w.heap.size+1]? =some (.cells #[.string ⟨#[]⟩,.string ⟨#[]⟩,.int .i64 0,.int .i64 0] 182 (0,0)):=(hb1.block _ lg).trans HT2.out;have q0:w1.cell? ⟨w.heap.size,0,none⟩=some (.string e.k):=by simp[World.cell?,hg3]
  have q1:w1.cell? ⟨w.heap.size,1,none⟩=some (.string e.v):=by simp[World.cell?,hg3]
  have Hg4:=zh hg4;have Hb3:=zh (HB.out.trans (hb1.mono HB.out.size));clear hg3 hg4 hb1 Hc HT HT2;have f:∀i,w1.frozen? ⟨w.heap.size+1,i,none⟩=false:=fun i=>by simp[World.frozen?,Hg4.out]
  have f0:=f 0;have f1:=f 1;have f2:=f 2;have f3:=f 3;have s0:w1.cell? ⟨w.heap.size+1,0,none⟩=some (.string ⟨#[]⟩):=by simp[World.cell?,Hg4.out]
  have s1:w1.cell? ⟨w.heap.size+1,1,none⟩=some (.string ⟨#[]⟩):=by simp[World.cell?,Hg4.out]
  have s2:w1.cell? ⟨w.heap.size+1,2,none⟩=some (.int .i64 0):=by simp[World.cell?,Hg4.out]
  have s3:w1.cell? ⟨w.heap.size+1,3,none⟩=some (.int .i64 0):=by simp[World.cell?,Hg4.out]
  have k:=Fin.out w1 (.string e.k) (.string e.v) (.int .i64 (e.v.size:Int)) (.int .i64 0) Hg4.out;obtain⟨k0,k1,k2,k3⟩:=k;have HBp:Hid (zB w (Uv w1 (w.heap.size+1) (.string e.k) (.string e.v) (.int .i64 (e.v.size:Int)) (.int .i64 0))):=Sj Hb3.out (by omega);unfold Uv at k0 k1 k2 k3;clear f Fin Hg4 Hb3;go_wp2_with fail;refine bodyPost_ret (v:=.agg #[.string e.k,.string e.v,.int .i64 (e.v.size:Int),.int .i64 0]) (by rw[Yk rfl];go_simp) rfl ⟨rfl,HBp.out⟩
theorem Dv:∀(a b:List En),cNs (a++b)=cNs a+cNs b
 | [],b=>by simp[cNs]
 | e::r,b=>by rw[List.cons_append,cNs,cNs,Dv r b];omega
theorem y5u (es:List En)(k:Nat)(h:k<es.length):cNs (es.take (k+1))=cNs (es.take k)+cN (ea es k):=by
 rw[Ew es k h,Dv];simp[cNs]
theorem x2d (es:List En)(k:Nat):cNs (es.take k)≤cNs es:=by
 conv=>rhs;rw[←List.take_append_drop k es,Dv]
 omega
theorem XO:∀(a b:List Tr),Z2 (a++b)=Z2 a+Z2 b
 | [],b=>by simp[Z2]
 | e::r,b=>by rw[List.cons_append,Z2,Z2,XO r b];omega
theorem VB4.c0 {w:World}{b:Nat}{v:NoV}(h:VB4 w b v):w.cell? ⟨b,0,none⟩=some (.int .i64 (v.pg:Nat)):=by
 have h':w.heap[b]? =_:=h;simp[World.cell?,h']
theorem VB4.c1 {w:World}{b:Nat}{v:NoV}(h:VB4 w b v):w.cell? ⟨b,1,none⟩=some v.c:=by
 have h':w.heap[b]? =_:=h;simp[World.cell?,h']
theorem VB4.c2 {w:World}{b:Nat}{v:NoV}(h:VB4 w b v):w.cell? ⟨b,2,none⟩=some v.k:=by
 have h':w.heap[b]? =_:=h;simp[World.cell?,h']
theorem VB4.c3 {w:World}{b:Nat}{v:NoV}(h:VB4 w b v):w.cell? ⟨b,3,none⟩=some v.p:=by
 have h':w.heap[b]? =_:=h;simp[World.cell?,h']
theorem VB4.lt {w:World}{b:Nat}{v:NoV}(h:VB4 w b v):b<w.heap.size:=(zag.1 h).1
theorem VB4.new (w:World)(v:NoV):∃W,w.alloc (.cells #[.int .i64 (v.pg:Nat),v.c,v.k,v.p] VT)=W∧VB4 W w.heap.size v∧zB w W:=
 ⟨_,rfl,by show(w.heap.push _)[w.heap.size]? =_;rw[Array.getElem?_push_size],(zbr _ _).alloc (zlr _) _⟩
theorem y97 (v:NoV)(w:World)(h:v.pg≠0):Calls prog 44 #[v.v] w fun e w'=>e=.returned (.int .i64 0)∧zB w w':=by
 obtain⟨W,hW,hV,hb⟩:=VB4.new w v;have Hc:=zh (Kk v W);rw[show(!decide (v.pg=0))=true by rw[zdf h];rfl] at Hc;have HW:=zh hW;have HB:=zh hb;clear hW hV hb h;obtain⟨pg,ca,cn,cc,ka,kn,kc,pa,pn,pc⟩:=v;dsimp only[NoV.c,NoV.k,NoV.p,NoV.v] at*
 go_enter func44,ntmps44
 go_wp2_with fail;rw[HW.out];refine Hc.out.mono ?_;rintro e w' ⟨rfl,hb⟩;have Hb:=zh (HB.out.trans (hb.mono HB.out.size));clear hb;go_wp2;go_ret;exact⟨rfl,Hb.out⟩
theorem z08 (v:NoV)(es:List En)(vs:List NoV)(ps:List Nat)(ns:List Nat)(w:World)(h0:v.pg=0)(hc:CV w v.c es)(hl:es.length≤100000)(hch:∀e∈es,e.ch.length≤100000)
  (hsz:∀e∈es,e.v.size≤2048) (hp:EV V8 w v.p ps) (hvs:vs.length=ps.length) (hnp:∀i,i<ps.length→NPv w (na ps i) (va vs i)) (hpl:ps.length≤100000)
  (hns:ns.length=ps.length) (hsum:cNs es+ns.sum+1≤1000000)
  (ih:∀i w',i<ps.length→zB w w'→Calls prog 44 #[(va vs i).v] w' fun e w''=>e=.returned (.int .i64 (na ns i:Nat))∧zB w' w''):
  Calls prog 44 #[v.v] w fun e w'=>e=.returned (.int .i64 ((cNs es+ns.sum+1:Nat):Int))∧zB w w':=by
 obtain⟨W,hW,hV,hb⟩:=VB4.new w v;have Hc:=zh (Kk v W);rw[show(!decide (v.pg=0))=false by rw[zdt h0];rfl] at Hc;have HW:=zh hW;have HB:=zh hb;have HV:=zh hV;have Hcv:=zh hc;have Hp:=zh hp;have Hih:=zh ih;have Hnp:=zh hnp;have Hch:=zh (zai hch hsz);have lb:w.heap.size<W.heap.size:=hV.lt;have Hsum:=zh hsum;have Hl:=zh (zai hl (zai hpl (zai hvs hns)));clear hW hV hb hc hp ih hnp hch hsz hsum hl hpl hvs hns;have Hlaid:=zh (fun(w1:World) (hx:zB w w1)=>XM v es w1 (Hcv.out.below hx (zlr _)) Hl.out.1 Hch.out.1);have Hkids:=zh (fun(w1:World) (hx:zB w w1)=>XN v ps vs w1 (Hp.out.below hx (zlr _)) Hl.out.2.2.1 (fun i hi=>NP.ext (Hnp.out i hi) hx) Hl.out.2.1);have hcell:Hid (∀w1,zB W w1→VB4 w1 w.heap.size v):=fun w1 hx=>HV.out.ext hx
 have Hpg:=zh h0;clear Hp Hnp HV h0
 go_enter func44,ntmps44
 go_wp2_with fail;rw[HW.out];refine Hc.out.mono ?_;rintro e w1 ⟨rfl,hb1⟩;have Hb1:=zh hb1;have q0:=(hcell.out w1 hb1).c0;have q1:=(hcell.out w1 hb1).c1;have q2:=(hcell.out w1 hb1).c2;have q3:=(hcell.out w1 hb1).c3;have HB1:=zh (HB.out.trans (hb1.mono HB.out.size));clear hb1 Hc;go_wp2_with fail;refine(Hlaid.out w1 HB1.out).mono ?_;rintro e w2 ⟨u,rfl,hoc,hb2⟩;obtain⟨n,hn⟩:∃n,es.length=n:=⟨_,rfl⟩
 have Hn:=zh hn;have hn9:n≤100000:=by have:=Hl.out.1;omega
 obtain⟨ua,uc,hu⟩:=hoc.form;subst hu;have Hu:=zh hoc.cv;rw[hn] at Hu⊢
 have HB2:=zh (HB1.out.trans (hb2.mono HB1.out.size));have Hb2:=zh (Hb1.out.trans (hb2.mono Hb1.out.size));clear hoc hb2 hn q0 q1 q2 q3 Hlaid;go_wp2_with fail
 go_loopw [3,5,13] (fun x _ i wr=>∃k A:Nat,x=.int .i64 (A:Int)∧i=.int .i64 k∧k≤n∧Hid (A=1+cNs (es.take k))∧Hid (zB w2 wr)) (fun _ _ i _=>n-(intOf i).toNat)
 case atStart=>exact⟨0,1,rfl,rfl,by omega,(by show _=_;simp[cNs]),zbr _ _⟩
 case round=>
  obtain⟨k,A,rfl,rfl,hk,hA,hB⟩:=hrel
  by_cases hlt:k<n
  ·obtain⟨g,o,hua,hcell2⟩:=y2c (Hu.out.below hB.out (zlr _)) (by rw[Hn.out];omega);subst hua;obtain⟨p0,p1,_,p2,⟨sa,sc,rfl,_⟩⟩:=hcell2 k (by rw[Hn.out];exact hlt);have hstep:=y5u es k (by rw[Hn.out];exact hlt);have hle:=x2d es (k+1);have hs48:=Hch.out.2 (ea es k) (Mw (by rw[Hn.out];exact hlt));have hcN:cN (ea es k)=if (decide (64<(ea es k).v.size)&&decide ((ea es k).ch.length=0))=true then nP (ea es k).v.size else 0:=rfl
   have hsz:=hB.out.size;have hbk:zB w2 (wr.alloc (.cells #[.string (ea es k).k,.string (ea es k).v,.slice sa (ea es k).ch.length sc] TCT)):=hB.out.alloc hsz _;have Hw:=zh (z07 (ea es k).k (ea es k).v sa (ea es k).ch.length sc (wr.alloc (.cells #[.string (ea es k).k,.string (ea es k).v,.slice sa (ea es k).ch.length sc] TCT)));have Hbk:=zh hbk;have hTn:=Y7 wr TCT #[.string (ea es k).k,.string (ea es k).v,.slice sa (ea es k).ch.length sc];have HTn:=zh hTn;have Hsum2:Hid (1+cNs (es.take (k+1))≤1000000):=by show _≤_;have:=Hsum.out;omega
   generalize ea es k=y at*;obtain⟨yk,yv,yc⟩:=y;dsimp only at p0 p1 p2 Hw hs48 hcN hstep Hbk HTn;generalize yc.length=yn at*;obtain⟨D,hD⟩:∃D,(decide (64<yv.size)&&decide (yn=0))=D:=⟨_,rfl⟩
   rw[hD] at Hw hcN;clear hcell2 hbk hTn hD hle;go_wp2_with fail;refine Hw.out.mono ?_;rintro e w3 ⟨rfl,hb3⟩;have HB3:Hid (zB w2 w3):=Hbk.out.trans (hb3.mono Hbk.out.size);have hg3:w3.heap[wr.heap.size]? =some (.cells #[.string yk,.string yv,.slice sa yn sc] TCT (0,0)):=(hb3.block _ (by simp)).trans HTn.out;have c1:w3.cell? ⟨wr.heap.size,1,none⟩=some (.string yv):=by simp[World.cell?,hg3]
   clear Hw hb3 hg3 hB Hbk HTn
   cases D with
   | false=>
    rw[if_neg (by decide)] at hcN;have hst:Hid (A=1+cNs (es.take (k+1))):=by show _=_;rw[hstep,hcN,hA.out];omega
    clear hstep hcN hA;go_wp2
    go_roundw
    case rel=>exact⟨k+1,A,rfl,by go_num,by omega,hst,HB3⟩
    case measure=>simp[intOf];omega
   | true=>
    rw[if_pos rfl] at hcN;have hst:Hid (A+nP yv.size=1+cNs (es.take (k+1))):=by show _=_;rw[hstep,hcN,hA.out];omega
    have Hct:=zh (y0y (yv.size:Int) w3 (by omega) (by omega));rw[x1u] at Hct;have hsum3:=Hsum2.out;rw[←hst.out] at hsum3;obtain⟨C,hC⟩:∃C,nP yv.size=C:=⟨_,rfl⟩
    rw[hC] at hst hsum3 Hct;clear hstep hcN hC hA;go_wp2_with fail;refine Hct.out.mono ?_;rintro e w' ⟨rfl,rfl⟩;have z1:IntKind.i64.wrap ((A:Int)+(C:Int))=((A+C:Nat):Int):=by rw[IntKind.wrap_i64];omega
    clear Hct hsum3;go_wp2
    go_roundw
    case rel=>exact⟨k+1,A+C,by go_num,by go_num,by omega,hst,HB3⟩
    case measure=>simp[intOf];omega
  ·obtain rfl:k=n:=by omega
   have HA:Hid (A=1+cNs es):=by
    have h1:=hA.out;rw[List.take_of_length_le (by rw[Hn.out];exact zlr _)] at h1;exact h1
   have hbx:=Hb2.out.trans (hB.out.mono Hb2.out.size);have q0:=(hcell.out wr hbx).c0;have q1:=(hcell.out wr hbx).c1;have q2:=(hcell.out wr hbx).c2;have q3:=(hcell.out wr hbx).c3;have HBr:=zh (HB2.out.trans (hB.out.mono HB2.out.size));clear hbx hB hA;go_wp2_with fail;refine(Hkids.out wr HBr.out).mono ?_;rintro e w3 ⟨u3,rfl,hon,hb3⟩;have hev:=hon.ev;obtain⟨ka3,kc3,hu3,hs3,_⟩:=hev;subst hu3;have hvl:vs.length=ps.length:=Hl.out.2.2.1;obtain⟨m,hm⟩:∃m,ps.length=m:=⟨_,rfl⟩
   have Hm:=zh hm;have hm9:m≤100000:=by have:=Hl.out.2.1;omega
   rw[hvl,hm];have Hs3:=zh hs3;have HB3:=zh (HBr.out.trans (hb3.mono HBr.out.size));clear hon hb3 hs3 hvl hm q0 q1 q2 q3;go_wp2_with fail
   go_loopw [3,7,30] (fun x _ i wr=>∃k X:Nat,x=.int .i64 (X:Int)∧i=.int .i64 k∧k≤m∧Hid (X=A+(ns.take k).sum)∧Hid (zB w3 wr)) (fun _ _ i _=>m-(intOf i).toNat)
   case atStart=>exact⟨0,A,rfl,rfl,by omega,(by show _=_;simp),zbr _ _⟩
   case round=>
    obtain⟨k,X,rfl,rfl,hk,hX,hB⟩:=hrel
    by_cases hlt:k<m
    ·obtain⟨g,o,hua,hcell2⟩:=(Hs3.out.below hB.out (zlr _)).nods (by have:=Hl.out.2.2.1;have:=Hm.out;omega);subst hua;obtain⟨p0,p1,p2,p3⟩:=hcell2 k (by have:=Hl.out.2.2.1;have:=Hm.out;omega);have hsz:=hB.out.size;have hnl:k<ns.length:=by have:=Hl.out.2.2.2;have:=Hm.out;omega
     have hstep:(ns.take (k+1)).sum=(ns.take k).sum+na ns k:=by rw[Iw ns k hnl,List.sum_append];simp
     have hle:(ns.take (k+1)).sum≤ns.sum:=by
      conv=>rhs;rw[←List.take_append_drop (k+1) ns,List.sum_append]
      omega
     have hbk:zB w3 (wr.alloc (.cells #[.int .i64 ((va vs k).pg:Nat),(va vs k).c,(va vs k).k,(va vs k).p] VT)):=hB.out.alloc hsz _;have Hcall:=zh (Hih.out k (wr.alloc (.cells #[.int .i64 ((va vs k).pg:Nat),(va vs k).c,(va vs k).k,(va vs k).p] VT)) (by rw[Hm.out];exact hlt) (HB3.out.trans (hbk.mono HB3.out.size)));have Hbk:=zh hbk;have hsm:=Hsum.out;have hA2:=HA.out;have hst:Hid (X+na ns k=A+(ns.take (k+1)).sum):=by show _=_;have:=hX.out;omega
     have hX2:=hX.out;obtain⟨Y,hY⟩:∃Y,na ns k=Y:=⟨_,rfl⟩
     have z1:IntKind.i64.wrap ((X:Int)+(Y:Int))=((X+Y:Nat):Int):=by rw[IntKind.wrap_i64];omega
     rw[hY] at hst Hcall;clear hstep hle hbk hsm hA2 hY hB hnl hcell2 hX hX2;generalize va vs k=x at*;obtain⟨xg,xa,xn,xc,ya,yn,yc,za,zn,zc⟩:=x;dsimp only[NoV.c,NoV.k,NoV.p,NoV.v] at*;go_wp2_with fail;refine Hcall.out.mono ?_;rintro e w4 ⟨rfl,hb4⟩;have HB4:=zh (Hbk.out.trans (hb4.mono Hbk.out.size));clear hb4 Hcall Hbk;go_wp2
     go_roundw
     case rel=>exact⟨k+1,X+Y,by go_num,by go_num,by omega,hst,HB4⟩
     case measure=>simp[intOf];omega
    ·obtain rfl:k=m:=by omega
     have hfin:Hid (X=cNs es+ns.sum+1):=by
      show _=_;have h1:=hX.out;rw[List.take_of_length_le (by have:=Hl.out.2.2.2;have:=Hm.out;omega)] at h1;have:=HA.out;omega
     have HBf:=zh (HB3.out.trans (hB.out.mono HB3.out.size));clear hB hX;go_wp2;go_ret;exact⟨by rw[←hfin.out];rfl,HBf.out⟩
theorem X8.vals {w:World}{h:Nat}{ks:List ByteArray}{lo hi:SB}{ps:List Nat}{ts:List Tr}(hr:X8 (X2 w h) ks lo hi ps ts):
  ∃vs:List NoV,vs.length=ps.length∧∀i,i<ps.length→NPv w (na ps i) (va vs i)∧Dk w h (lob lo ks i) (hib hi ks i) (va vs i) (ta ts i)∧126≤(ta ts i).sz∧(ta ts i).sz≤504:=by
 have hl:=hr.len;have hex:∀k,k<ps.length→∃x:NoV,NPv w (na ps k) x∧Dk w h (lob lo ks k) (hib hi ks k) x (ta ts k)∧126≤(ta ts k).sz∧(ta ts k).sz≤504:=fun k hk=>by
  obtain⟨h1,h2,h3⟩:X2 w h (lob lo ks k) (hib hi ks k) (na ps k) (ta ts k):=hr.kid (d:=default) (by omega);obtain⟨x,h4,h5⟩:=h1.val;exact⟨x,h4,h5,h2,h3⟩
 refine⟨(List.range ps.length).map (fun k=>if hk:k<ps.length then Classical.choose (hex k hk) else default),by simp,fun i hi=> ?_⟩;have e:va ((List.range ps.length).map (fun k=>if hk:k<ps.length then Classical.choose (hex k hk) else default)) i=Classical.choose (hex i hi):=by
  unfold va;simp[List.getD,hi]
 rw[e];exact Classical.choose_spec (hex i hi)
theorem x2e (ts:List Tr)(f:Tr→Nat)(i:Nat)(h:i<ts.length):na (ts.map f) i=f (ta ts i):=by
 unfold na ta;simp[List.getD,h]
theorem XP:∀(ts:List Tr),Z2 ts=(ts.map Tr.need).sum
 | []=>by simp[Z2]
 | t::r=>by rw[Z2,XP r];simp
theorem XQ {ts:List Tr}{i:Nat}(h:i<ts.length):ta ts i∈ts:=by
 unfold ta;simp[List.getD,h]
theorem xB {e:En}{t:Tr}:∀{ts:List Tr},t∈ts→e∈t.es→e∈esL ts
 | [],h,_=>by cases h
 | u::r,h,he=>by
  rw[esL]
  rcases List.mem_cons.1 h with rfl|h
  ·exact List.mem_append_left _ he
  ·exact List.mem_append_right _ (xB h he)
theorem z09 {t:Tr}:∀{ts:List Tr},t∈ts→t.need≤Z2 ts
 | [],h=>by cases h
 | u::r,h=>by
  rw[Z2]
  rcases List.mem_cons.1 h with rfl|h
  ·omega
  ·have:=z09 h;omega
theorem z5i:∀(h:Nat) {lo hi:SB} (v:NoV) (t:Tr) (w:World),Dk w h lo hi v t→t.sz≤504→(∀e∈t.es,e.ch.length≤100000)→t.need≤1000000→
  Calls prog 44 #[v.v] w fun e w'=>e=.returned (.int .i64 (t.need:Nat))∧zB w w'
 | h,lo,hi,v,t,w,hn,hz,hch,hnd=>by
  by_cases h0:v.pg=0
  ·cases h with
   | zero=>
    obtain⟨es,rfl,h1,h2,h3,_,_,h4⟩:=hn;rw[Tr.need,if_pos h0] at hnd⊢
    rw[Tr.es] at hch;simp only[Tr.sz] at hz;have hr:=Vu (fun x hx=>(h4 x hx).1);have:=z08 v es [] [] [] w h0 h3 (by unfold Y3 at hz;omega) hch (fun e he=>(h4 e he).1.2) (by rw[h2];exact EV.none _) rfl (fun i hi=>by simp at hi) (by simp) rfl (by simpa using hnd) (fun i w' hi _=>by simp at hi)
    simpa using this
   | succ h=>
    obtain⟨ks,ps,ts,rfl,h1,h2,h3,hr⟩:=hn;rw[Tr.need,if_pos h0] at hnd⊢
    rw[Tr.es] at hch;simp only[Tr.sz] at hz;obtain⟨vs,hvl,hvs⟩:=hr.vals;have hl:=hr.len;have hkr:=Y5 hr.factsT.2.2.2;rw[XP] at hnd⊢
    have:=z08 v [] vs ps (ts.map Tr.need) w h0 (by rw[h1];exact CV.none _) (by simp) (fun e he=>by cases he) (fun e he=>by cases he) h3 hvl (fun i hi=>(hvs i hi).1) (by unfold T8 at hz;omega) (by rw[List.length_map];omega) (by simpa [cNs] using hnd) (fun i w' hi hb=>by
     rw[x2e ts Tr.need i (by omega)];obtain⟨g1,g2,g3,g4⟩:=hvs i hi;have hm:ta ts i∈ts:=XQ (by omega);exact z5i h (va vs i) (ta ts i) w' (g2.ext hb) g4 (fun e he=>hch e (xB hm he)) (by have:=z09 hm;rw[XP] at this;omega))
    simpa [cNs] using this
  ·rw[show t.need=0 from z0f t (by rw[hn.pg];exact h0)];exact y97 v w h0
end Go.Proofs.YtdgladhfibfdlaaGreatDoor
