/-
  Steps.
-/
import Derived.Test.YtdgladhfibfdlaaGreatDoorQPSs39
namespace Go.Proofs.YtdgladhfibfdlaaGreatDoor
open Go Go.RowKit Go.Proofs.Tryz
set_option maxRecDepth 100000
theorem z3q (gl B B':Nat)(u:Value)(cs:List En)(ps:List Nat)(ws:List PgW)(w:World)(hI:LyI w gl B ps ws)(hu:OC w B' u cs)(hB':B≤B')(hcs:srt cs)(hok:∀e∈cs,okE e)(hcv:∀e∈cs,CeV e)
  (hchl:∀e∈cs,e.ch.length≤100000) (hsz:Y3 cs≤504) (hnd:cNs cs+1≤ps.length) (hpb:∀x∈ps,2≤x∧x<1024) (hwl:ws.length+cNs cs≤50000):
  Calls prog 74 #[pt gl,u] w fun e w'=>∃x:NoV,e=.returned x.v∧x.pg=na ps (cNs cs)∧OCk w' w.heap.size x.c (Tz cs ps) (Tz cs ps).length∧x.k=Z0∧x.p=Z0∧LyI w' gl B (ps.drop (cNs cs+1)) (ws++(wrC cs ps++[(na ps (cNs cs),V7 1 (Tj ((Tz cs ps).map cE)))]))∧Zx (LFu w gl B u) w w':=by
 have hn1:cs.length≤504:=by
  have:=Vu (fun x hx=>hok x hx);unfold Y3 at hsz;omega
 obtain⟨W,hW,hT,hb⟩:=Z1 w VT #[.int .i64 0,Z0,Z0,Z0];have hlv:LvI w W gl B B' u Z0 cs ps ws 0 0:=
  ⟨by simp only[List.take_zero,cNs,List.drop_zero,wrC,List.append_nil];exact hI.ext hb,by simp only[List.take_zero,Tz,List.drop_zero,List.nil_append];exact hu.below hb (zlr _),World.ownsRow_nil _ _ _ _,x3x hb,hT⟩
 obtain⟨a0,c0,rfl⟩:=hu.form;have HW:=zh hW;have HLv:=zh hlv;have HC:=zh (zai hB' (zai hcs (zai hok (zai hcv (zai hchl (zai hsz (zai hnd (zai hpb (zai hwl hI.bz)))))))));obtain⟨n,hn⟩:∃n,cs.length=n:=⟨_,rfl⟩
 have Hn:=zh hn;rw[hn] at hn1 HLv⊢
 clear hI hu hB' hcs hok hcv hchl hsz hnd hpb hwl hW hT hb hlv hn
 go_enter func74,ntmps74
 go_wp2_with fail;rw[HW.out]
 go_loopw [5,12] (fun vn i wr=>∃(k:Nat) (v:Value),v=vn∧i=.int .i64 k∧k≤n∧Hid (LvI w wr gl B B' (.slice a0 n c0) v cs ps ws k k)) (fun _ i _=>n-(intOf i).toNat)
 case atStart=>exact⟨0,Z0,rfl,rfl,by omega,HLv⟩
 case round=>
  obtain⟨k,vn,rfl,rfl,hk,hlv⟩:=hrel
  by_cases hlt:k<n
  ·have hkl:k<cs.length:=by rw[Hn.out];exact hlt
   have hmid:=z3p cs ps k hkl;obtain⟨gb,c2,hgb⟩:=hlv.out.oc.lit (by rw[hmid.2];omega);obtain⟨rfl,rfl⟩:a0=some ⟨gb,0,none⟩∧c0=c2:=by
    injection hgb with h1 h2 h3
    exact⟨h1,h3⟩
   obtain⟨ys,hown,hrw⟩:=hlv.out.oc;have hyl:=hrw.len;rw[hmid.2,Hn.out] at hyl;have hown':wr.ownsRow B' TCT Uw.sz (.slice (some ⟨gb,0,none⟩) ys.length c0) ys.length (Uw.row ys):=by rw[hyl] at hown⊢;exact hown
   obtain⟨⟨r0,r1,r2⟩,hfz,hBg,A,hg⟩:=z3f k (by omega) hown';obtain⟨y1,y2,a',c',y3,y4⟩:=hrw.at (i:=k) (by omega);rw[hmid.1] at y1 y2 y3 y4;have y1':(xa ys k).k=(ea cs k).k:=y1;have y2':(xa ys k).v=(ea cs k).v:=y2;have y3':(xa ys k).sl=.slice a' (ea cs k).ch.length c':=y3;rw[y1'] at r0;rw[y2'] at r1;rw[y3'] at r2;have lg:gb<wr.heap.size:=(zag.1 hg).1;have Hev:Hid (EV pgE wr (.slice a' (ea cs k).ch.length c') (ea cs k).ch):=⟨_,_,rfl,y4⟩
   have hba:zB wr (wr.alloc (.cells #[.string (ea cs k).k,.string (ea cs k).v,.slice a' (ea cs k).ch.length c'] TCT)):=(zbr _ _).alloc (zlr _) _;have h7:(wr.alloc (.cells #[.string (ea cs k).k,.string (ea cs k).v,.slice a' (ea cs k).ch.length c'] TCT)).heap[wr.heap.size]? =some (.cells #[.string (ea cs k).k,.string (ea cs k).v,.slice a' (ea cs k).ch.length c'] TCT (0,0)):=Y7 _ _ _;have Hlv1:=zh (hlv.out.ext hba);have Hev1:=zh (Hev.out.below hba (zlr _));have H7:=zh h7;have hwz:=hlv.out.lt.size;have Hwz:Hid (w.heap.size≤wr.heap.size):=hwz;have Hne:Hid (gb≠wr.heap.size):=by show gb≠_;omega
   clear hgb hown hrw hyl hown' hfz hBg hg y1 y2 y3 y4 y1' y2' y3' hlv Hev hba h7 hmid lg hwz hkl;obtain⟨e,he⟩:∃e,ea cs k=e:=⟨_,rfl⟩
   have He:=zh he;rw[he] at r0 r1 r2 Hev1 H7;obtain⟨m,hm⟩:∃m,e.ch.length=m:=⟨_,rfl⟩
   have Hm:=zh hm;rw[hm] at r2 Hev1 H7;rw[he,hm] at Hlv1;clear he hm;go_wp2_with fail;clear r0 r1 r2;generalize hw1:wr.alloc (.cells #[.string e.k,.string e.v,.slice a' m c'] TCT)=w1 at*;generalize ht7:wr.heap.size=t7 at*;clear hw1 ht7;refine(z07 e.k e.v a' m c' w1).mono ?_;rintro r w2 ⟨rfl,hb2⟩;have hlv2:=zh (Hlv1.out.ext hb2);have hev2:=zh (Hev1.out.ext hb2);have h72:=zh ((hb2.block _ (zag.1 H7.out).1).trans H7.out);obtain⟨D,hD⟩:∃D,(decide (64<e.v.size)&&decide (m=0))=D:=⟨_,rfl⟩
   have HD:Hid (N0 e=D):=by show _=_;unfold N0;rw[Hm.out];exact hD
   rw[hD];clear hb2 Hlv1 Hev1 H7 hD
   go_upto_if 18 with fail
   go_cut [] (fun wx=>∃(a2:Option Addr) (m2 c2:Nat),Hid (wx.heap[t7]? =some (.cells #[.string e.k,.string e.v,.slice a2 m2 c2] TCT (0,0)))∧Hid (EV pgE wx (.slice a2 m2 c2) (E8 e (ps.drop (cNs (cs.take k)))).ch)∧Hid (LvI w wx gl B B' (.slice (some ⟨gb,0,none⟩) n c0) vn cs ps ws (k+1) k))
   case first=>
    cases D with
    | false=>
     have hfin:Hid (EV pgE w2 (.slice a' m c') (E8 e (ps.drop (cNs (cs.take k)))).ch):=by
      have e3:E8 e (ps.drop (cNs (cs.take k)))=e:=by unfold E8;rw[HD.out];rfl
      rw[e3];exact hev2.out
     have hst:Hid (LvI w w2 gl B B' (.slice (some ⟨gb,0,none⟩) n c0) vn cs ps ws (k+1) k):=hlv2.out.stay (by rw[Hn.out];exact hlt) (by rw[He.out];exact HD.out);go_wp2;go_meet;exact⟨a',m,c',h72,hfin,hst⟩
    | true=>
     have h64:64<e.v.size:=by
      have h:=HD.out;unfold N0 at h;simp only[Bool.and_eq_true,decide_eq_true_iff] at h;exact h.1
     have hkl:k<cs.length:=by rw[Hn.out];exact hlt
     obtain⟨hBB,_,hok,_,_,_,hnd,hpb,hwl,hBw⟩:=HC.out;have hvs:=(hok (ea cs k) (Mw hkl)).2;rw[He.out] at hvs;have hst:=ZP cs k hkl;have hle:=XW cs (k+1);have hcn:cN (ea cs k)=nP e.v.size:=by unfold cN;rw[He.out,HD.out];rfl
     have q1:w2.cell? ⟨t7,1,none⟩=some (.string e.v):=by have h:=h72.out;simp[World.cell?,h]
     have hC:=zh (y2u gl B e.v (ps.drop (cNs (cs.take k))) (ws++wrC (cs.take k) ps) w2 hlv2.out.ly h64 (by omega) (by rw[zld];omega) (fun x hx=>hpb x (List.mem_of_mem_drop hx)) (by rw[zla,xH];omega));clear h64 hkl hok hnd hpb hwl hvs hst hle hcn;go_wp2_with fail;refine hC.out.mono ?_;rintro r w3 ⟨u3,rfl,hev3,hly3,ht3⟩;obtain⟨a3,c3,rfl,hs3⟩:=hev3;have hev3:EV pgE w3 (.slice a3 ((ps.drop (cNs (cs.take k))).take (nP e.v.size)).reverse.length c3) ((ps.drop (cNs (cs.take k))).take (nP e.v.size)).reverse:=⟨a3,c3,rfl,hs3⟩
     obtain⟨m3,hm3⟩:∃m,((ps.drop (cNs (cs.take k))).take (nP e.v.size)).reverse.length=m:=⟨_,rfl⟩
     rw[hm3] at hev3⊢
     have hld:=LvI.laid (t7:=t7) (x2:=.slice a' m c') hlv2.out hBw hBB Hn.out hlt (by rw[He.out];exact HD.out) (by rw[He.out];exact hly3) ht3 (by rw[He.out];exact hev3) (by rw[He.out];exact h72.out) Hwz.out Hne.out;rw[He.out] at hld;obtain⟨z7,z74,⟨z0,z1,⟨z2v,z2⟩,zf⟩,z75,zev,zlv⟩:=hld;have s2:w3.cell? ⟨t7,2,none⟩=some (.slice a' m c'):=by simp[World.cell?,z7]
     have f2:w3.frozen? ⟨t7,2,none⟩=false:=by simp[World.frozen?,z7]
     have k0:(w3.setCell ⟨t7,2,none⟩ (.slice a3 m3 c3)).cell? ⟨t7,0,none⟩=some (.string e.k):=by simp[World.cell?,z74]
     have k1:(w3.setCell ⟨t7,2,none⟩ (.slice a3 m3 c3)).cell? ⟨t7,1,none⟩=some (.string e.v):=by simp[World.cell?,z74]
     have k2:(w3.setCell ⟨t7,2,none⟩ (.slice a3 m3 c3)).cell? ⟨t7,2,none⟩=some (.slice a3 m3 c3):=by simp[World.cell?,z74]
     have zf0:=zf (k*3);have zf1:=zf (k*3+1);have zf2:=zf (k*3+2);have Hfin:=zh (zai z75 (zai zev zlv));clear z7 z74 zf z75 zev zlv hev3 hly3 ht3 hs3 hm3 hC q1 h72 hev2 hlv2;go_wp2_with fail;go_meet;exact⟨a3,m3,c3,Hfin.out.1,Hfin.out.2.1,Hfin.out.2.2⟩
   case rest=>
    obtain⟨a2,m2,c2,h7x,hevx,hlvx⟩:=hcut;have hkl:k<cs.length:=by rw[Hn.out];exact hlt
    obtain⟨hBB,_,_,hcv,_,_,hnd,hpb,_,hBw⟩:=HC.out;have hle:=XW cs (k+1);have hst:=ZP cs k hkl;have hw:=y7s (ps:=ps.drop (cNs (cs.take k))) (hcv (ea cs k) (Mw hkl)) (by rw[zld];omega) (fun x hx=>hpb x (List.mem_of_mem_drop hx));have hls:=z1h cs ps k hkl;rw[He.out] at hw hls;have hkv:=z3n e (ps.drop (cNs (cs.take k)));obtain⟨e',he'⟩:∃e',E8 e (ps.drop (cNs (cs.take k)))=e':=⟨_,rfl⟩
    rw[he'] at hw hkv hevx hls;rw[←hkv.1,←hkv.2] at h7x;have hm2:m2=e'.ch.length:=by
     obtain⟨_,_,hh,_⟩:=hevx.out;injection hh
    have hl0:64<e'.v.size→0<e'.ch.length:=fun h=>by
     rcases hw.1 with h1|h1
     ·omega
     ·exact h1.2
    have hco:=zh (z3h e' a2 c2 wc (by rw[←hm2];exact hevx.out) hl0);rw[←hm2] at hco;have q0:wc.cell? ⟨t7,0,none⟩=some (.string e'.k):=by have h:=h7x.out;simp[World.cell?,h]
    have q1:wc.cell? ⟨t7,1,none⟩=some (.string e'.v):=by have h:=h7x.out;simp[World.cell?,h]
    have q2:wc.cell? ⟨t7,2,none⟩=some (.slice a2 m2 c2):=by have h:=h7x.out;simp[World.cell?,h]
    obtain⟨C,hC⟩:∃C,cE e'=C:=⟨_,rfl⟩
    rw[hC] at hco;have Hls:Hid ((Tz (cs.take (k+1)) ps).map cE=(Tz (cs.take k) ps).map cE++[C]):=by show _=_;rw[hls,List.map_append,List.map_cons,List.map_nil,hC]
    have hlk:((Tz (cs.take k) ps).map cE).length=k:=by rw[List.length_map,N5,zlk];omega
    have Hlk:=zh hlk;clear hcv hnd hpb hle hst hw hls hkv he' hm2 hl0 hC hkl h7x hevx hlk HD;go_wp2_with fail;refine hco.out.mono ?_;rintro r w7 ⟨rfl,hb7⟩;have hlv7:=zh (hlvx.out.ext hb7);have hnew:=zh (y1s w7 CT C);have hwz7:w.heap.size≤w7.heap.size:=hlv7.out.lt.size;have hown7:Hid ((w7.alloc (.cells #[.string C.k,.string C.v,.int .i64 C.n,.int .i64 C.p] CT)).ownsRow w.heap.size CT 4 vn ((Tz (cs.take k) ps).map cE).length (cvs ((Tz (cs.take k) ps).map cE))):=by
     have h:=hlv7.out.nm.alloc (.cells #[.string C.k,.string C.v,.int .i64 C.n,.int .i64 C.p] CT);rw[Hlk.out];exact h
    have hlv8:=zh (hlv7.out.ext ((zbr w7.heap.size w7).alloc (zlr _) (.cells #[.string C.k,.string C.v,.int .i64 C.n,.int .i64 C.p] CT)));clear hb7 hlvx q0 q1 q2 hco;obtain⟨C0,C1,C2,C3⟩:=C;simp only[ceV];dsimp only at hnew hown7 hlv8 Hls
    go_wp2_with (at_builtin;refine Rx rfl (.tmp 29) (.tmp 32) 180 rfl w.heap.size CT underlying180 x3l vn ((Tz (cs.take k) ps).map cE) (by rfl) hown7 w7.heap.size 1 ⟨C0,C1,C2,C3⟩ (by rfl) hnew.out (by rw[Hlk.out];omega) (by simp;omega) ?_;intro v' w9 hown9 hgrow9)
    have hlv9:Hid (LvI w w9 gl B B' (.slice (some ⟨gb,0,none⟩) n c0) v' cs ps ws (k+1) (k+1)):=by
     refine hlv8.out.named hBw hgrow9.out ?_;have h:=hown9.out;rw[←Hls.out] at h;have hlk1:((Tz (cs.take (k+1)) ps).map cE).length=k+1:=by rw[List.length_map,N5,zlk,Hn.out];omega
     rw[hlk1] at h;exact h
    clear hown9 hgrow9 hlv8 hlv7 hown7 hnew;go_wp2_with fail
    go_roundw
    case rel=>exact⟨k+1,v',rfl,by go_num,by omega,hlv9⟩
    case measure=>simp[intOf];omega
  ·obtain rfl:k=n:=by omega
   have htk:cs.take k=cs:=List.take_of_length_le (by rw[Hn.out];exact zlr _);obtain⟨hBB,hcs,hok,hcv,hchl,hsz,hnd,hpb,hwl,hBw⟩:=HC.out;have hlv2:=hlv.out;obtain⟨hly,hoc,hnm,hlt3,hrs⟩:=hlv2;rw[htk] at hly hoc hnm;rw[List.drop_of_length_le (by rw[Hn.out];exact zlr _),List.append_nil] at hoc;have hall:∀e∈Tz cs ps,okE e∧CeW e:=fun e he=>⟨y2y cs ps hok e he,y7t cs ps hcv (by omega) hpb e he⟩
   have hld:=xI _ hall;rw[z3o] at hld;have henc:=x1l (y2x hall) (z5d (z50 hcs)) (by omega);have hcl:((Tz cs ps).map cE).length=k:=by rw[List.length_map,N5,Hn.out]
   rw[←hcl] at hnm;obtain⟨av,cvv,rfl,hcsrc,_⟩:=O9 hnm;have hE:=z7i av k cvv ((Tz cs ps).map cE) wr hcl hcsrc (by omega);rw[henc.1,henc.2] at hE;rw[hcl] at hnm⊢
   have hlw:(Tz cs ps).length=k:=by rw[N5,Hn.out]
   obtain⟨L,hL⟩:∃L,Tj ((Tz cs ps).map cE)=L:=⟨_,rfl⟩
   rw[hL] at hE hld;have hb8:B8 L:=by rw[←hL];exact y8x _
   obtain⟨m,hm⟩:∃m,L.length=m:=⟨_,rfl⟩
   have HE:=zh hE;have HS:=zh (zai hly (zai hoc (zai hlt3 hrs)));have HL:=zh (zai hm (zai (show m≤504 by omega) (zai hb8 hL)));have HC2:=zh (zai (z51 cs ps hok hchl) (zai hlw (zai (show 0<(ps.drop (cNs cs)).length by rw[zld];omega) (show(ws++wrC cs ps).length≤100000 by rw[zla,xH];omega))));have Hbw:=zh hBw;obtain⟨M,hM⟩:∃M,cNs cs=M:=⟨_,rfl⟩
   have HM:=zh hM;generalize x2y 0=E0 at*;clear htk hBB hcs hok hcv hchl hsz hnd hpb hwl hlv hly hoc hnm hlt3 hrs hall hld henc hcl hcsrc hE hlw hL hb8 hm hBw hM;go_wp2_with fail;refine HE.out.mono ?_;rintro e w4 ⟨v,rfl,hsl,hb4⟩;obtain⟨a5,c5,rfl,hs5,_⟩:=hsl.arg;rw[HL.out.1];have hly4:=HS.out.1.ext hb4;have hr4:=(hb4.block _ (zag.1 HS.out.2.2.2).1).trans HS.out.2.2.2;have Hb4:=zh hb4;have Hly4:=zh hly4;have Hr4:=zh hr4;have Hs5:=zh hs5;clear hb4 hly4 hr4 hs5 hsl;go_wp2_with fail;refine(XU gl B 1 m c5 a5 L (ps.drop (cNs cs)) (ws++wrC cs ps) w4 Hly4.out HC2.out.2.2.1 HC2.out.2.2.2 HL.out.1 (by omega) (by omega) HL.out.2.1 HL.out.2.2.1 Hs5.out).mono ?_;rintro e w5 ⟨rfl,hly5,ht5⟩;rw[YZ,Nat.add_zero,List.drop_drop] at hly5;rw[YZ,Nat.add_zero];have hoc5:=(HS.out.2.1.below Hb4.out (zlr _)).lay Hly4.out ht5;have hr5:=Hly4.out.hg ht5 Hr4.out;have hlt5:=LFu.trans (HS.out.2.2.1.trans (x3x Hb4.out)) ht5;have HA:=zh (z7m (na ps (cNs cs)) (.slice a0 k c0) (Tz cs ps) w5 hoc5.cv (by rw[HC2.out.2.1];omega) HC2.out.1);have H5:=zh (zai hly5 (zai hr5 hlt5));clear hly5 ht5 hoc5 hr5 hlt5 Hr4 Hs5;go_wp2_with fail;refine HA.out.mono ?_;rintro e w6 ⟨x,rfl,hxp,hxc,hxk,hxv,hb6⟩;have hg:w6.heap[w.heap.size]? =some (.cells #[.int .i64 0,Z0,Z0,Z0] VT (0,0)):=(hb6.block _ (zag.1 H5.out.2.1).1).trans H5.out.2.1;have cc0:w6.cell? ⟨w.heap.size,0,none⟩=some (.int .i64 0):=by simp[World.cell?,hg]
   have cc1:w6.cell? ⟨w.heap.size,1,none⟩=some Z0:=by simp[World.cell?,hg]
   have cc2:w6.cell? ⟨w.heap.size,2,none⟩=some Z0:=by simp[World.cell?,hg]
   have cc3:w6.cell? ⟨w.heap.size,3,none⟩=some Z0:=by simp[World.cell?,hg]
   have f0:∀i,w6.frozen? ⟨w.heap.size,i,none⟩=false:=fun i=>by simp[World.frozen?,hg]
   have F0:=f0 0;have F1:=f0 1;have F2:=f0 2;have F3:=f0 3;have Hg:=zh hg;have HX:=zh (zai hxp (zai hxc (zai hxk (zai hxv hb6))));clear hg f0 hxp hxc hxk hxv hb6 HA;obtain⟨pg,ca,cn,cc,ka,kn,kc,pa,pn,pc⟩:=x;dsimp only[NoV.c,NoV.k,NoV.p,NoV.v] at*;go_wp2_with fail;have Hp:=zh (U6 (x0:=.int .i64 (pg:Nat)) (x1:=.slice ca cn cc) (x2:=.slice ka kn kc) (x3:=.slice pa pn pc) Hg.out);have k0:(Uv w6 w.heap.size (.int .i64 (pg:Nat)) (.slice ca cn cc) (.slice ka kn kc) (.slice pa pn pc)).cell? ⟨w.heap.size,0,none⟩=some (.int .i64 (pg:Nat)):=by simp[World.cell?,Hp.out]
   have k1:(Uv w6 w.heap.size (.int .i64 (pg:Nat)) (.slice ca cn cc) (.slice ka kn kc) (.slice pa pn pc)).cell? ⟨w.heap.size,1,none⟩=some (.slice ca cn cc):=by simp[World.cell?,Hp.out]
   have k2:(Uv w6 w.heap.size (.int .i64 (pg:Nat)) (.slice ca cn cc) (.slice ka kn kc) (.slice pa pn pc)).cell? ⟨w.heap.size,2,none⟩=some (.slice ka kn kc):=by simp[World.cell?,Hp.out]
   have k3:(Uv w6 w.heap.size (.int .i64 (pg:Nat)) (.slice ca cn cc) (.slice ka kn kc) (.slice pa pn pc)).cell? ⟨w.heap.size,3,none⟩=some (.slice pa pn pc):=by simp[World.cell?,Hp.out]
   unfold Uv at k0 k1 k2 k3;have tp:=U7 (w:=w6) (g:=w.heap.size) (x0:=.int .i64 (pg:Nat)) (x1:=.slice ca cn cc) (x2:=.slice ka kn kc) (x3:=.slice pa pn pc);obtain⟨h1,h2,h3,h4,h6⟩:=HX.out;have Hend:Hid (OCk (Uv w6 w.heap.size (.int .i64 (pg:Nat)) (.slice ca cn cc) (.slice ka kn kc) (.slice pa pn pc)) w.heap.size (.slice ca cn cc) (Tz cs ps) (Tz cs ps).length∧LyI (Uv w6 w.heap.size (.int .i64 (pg:Nat)) (.slice ca cn cc) (.slice ka kn kc) (.slice pa pn pc)) gl B (ps.drop (cNs cs+1)) (ws++(wrC cs ps++[(na ps (cNs cs),V7 1 (Tj ((Tz cs ps).map cE)))]))∧Zx (LFu w gl B (.slice a0 k c0)) w (Uv w6 w.heap.size (.int .i64 (pg:Nat)) (.slice ca cn cc) (.slice ka kn kc) (.slice pa pn pc))):=by
    refine⟨(x33 h2 (H5.out.2.2.size)).tur tp (TyF.one Hg.out) rfl (by decide),?_,?_⟩
    ·have h7:=(H5.out.1.ext h6).tz tp (fun i hi=>by
      obtain rfl:i=w.heap.size:=hi;exact⟨Hbw.out,_,_,_,Hg.out,by decide,by decide⟩)
     rw[HL.out.2.2.2,←List.append_assoc];exact h7
    ·exact(H5.out.2.2.trans (x3x h6)).step tp (fun i hi hl=>by
      obtain rfl:i=w.heap.size:=hi;omega)
   unfold Uv at Hend;refine bodyPost_ret (v:=.agg #[.int .i64 (pg:Nat),.slice ca cn cc,.slice ka kn kc,.slice pa pn pc]) (by rw[Yk rfl];go_simp) rfl ⟨⟨pg,ca,cn,cc,ka,kn,kc,pa,pn,pc⟩,rfl,h1,Hend.out.1,h3,h4,Hend.out.2.1,Hend.out.2.2⟩
theorem y22:∀(a b:List Tr) (ps:List Nat),wrL (a++b) ps=wrL a ps++wrL b (ps.drop (Z2 a))
 | [],b,ps=>by simp[wrL,Z2]
 | t::r,b,ps=>by rw[List.cons_append,wrL,wrL,y22 r b,List.drop_drop,Z2,List.append_assoc]
theorem y23 (ts:List Tr)(k:Nat)(h:k<ts.length):ts.take (k+1)=ts.take k++[ta ts k]:=by
 rw[List.take_succ_eq_append_getElem h];simp[ta,List.getD,h]
theorem D6 (ts:List Tr)(k:Nat)(h:k<ts.length):Z2 (ts.take (k+1))=Z2 (ts.take k)+(ta ts k).need:=by
 rw[y23 ts k h,XO];simp[Z2]
theorem y6p (ts:List Tr)(ps:List Nat)(k:Nat)(h:k<ts.length):wrL (ts.take (k+1)) ps=wrL (ts.take k) ps++wrT (ta ts k) (ps.drop (Z2 (ts.take k))):=by
 rw[y23 ts k h,y22];simp[wrL]
theorem F7 (ts:List Tr)(k:Nat):Z2 (ts.take k)≤Z2 ts:=by
 have:=XO (ts.take k) (ts.drop k);rw[List.take_append_drop] at this;omega
mutual
theorem x0k:∀(t:Tr) (ps:List Nat),(wrT t ps).length=t.need
 | .leaf pg cs,ps=>by
  rw[wrT,Tr.need]
  by_cases h:pg=0
  ·rw[if_pos h,if_pos h,zla,xH];rfl
  ·rw[if_neg h,if_neg h];rfl
 | .bran pg ks ts,ps=>by
  rw[wrT,Tr.need]
  by_cases h:pg=0
  ·rw[if_pos h,if_pos h,zla,I3 ts];rfl
  ·rw[if_neg h,if_neg h];rfl
theorem I3:∀(ts:List Tr) (ps:List Nat),(wrL ts ps).length=Z2 ts
 | [],_=>by rw[wrL,Z2];rfl
 | t::r,ps=>by rw[wrL,Z2,zla,x0k t,I3 r]
end
theorem JZ:∀(ts:List Tr) (ps:List Nat) (i:Nat),i<ts.length→ta (Uy ts ps) i=Pk (ta ts i) (ps.drop (Z2 (ts.take i)))
 | [],_,_,h=>by simp at h
 | t::r,ps,0,_=>by rw[Uy];rfl
 | t::r,ps,i+1,h=>by
  have e1:ta (t::r) (i+1)=ta r i:=rfl;have e2:(t::r).take (i+1)=t::r.take i:=rfl;rw[Uy,e1,e2,Z2,←List.drop_drop];have e3:ta (Pk t ps::Uy r (ps.drop t.need)) (i+1)=ta (Uy r (ps.drop t.need)) i:=rfl;rw[e3,JZ r _ i (by simpa using h)]
theorem x0l (t:Tr)(ps:List Nat)(hl:t.need≤ps.length)(hz:∀x∈ps,x≠0):(Pk t ps).pg≠0:=by
 cases t with
 | leaf pg cs=>
  rw[Tr.need] at hl;rw[Pk]
  by_cases h1:pg=0
  ·rw[if_pos h1] at hl⊢
   exact hz _ (Ox (by omega))
  ·rw[if_neg h1];exact h1
 | bran pg ks ts=>
  rw[Tr.need] at hl;rw[Pk]
  by_cases h1:pg=0
  ·rw[if_pos h1] at hl⊢
   exact hz _ (Ox (by omega))
  ·rw[if_neg h1];exact h1
theorem y24 {p:Nat}{t:Tr}:∀{ts:List Tr},t∈ts→cU p t≤cUL p ts
 | [],h=>by cases h
 | u::r,h=>by
  rw[Qu]
  rcases List.mem_cons.1 h with rfl|h
  ·omega
  ·have:=y24 (p:=p) h;omega
theorem KA {ts:List Tr}{ps:List Nat}{i:Nat}(h:i<ts.length):Pk (ta ts i) (ps.drop (Z2 (ts.take i)))∈Uy ts ps:=by
 rw[←JZ ts ps i h];exact XQ (by rw[Q0];exact h)
theorem x4m {β:Type}{G:SB→SB→Nat→β→Prop}{d:β}:∀{ks:List ByteArray} {lo hi:SB} {ps:List Nat} {ts:List β},ps.length=ks.length+1→ts.length=ks.length+1→(∀k∈ks,okK k=true)→
  (∀i,i≤ks.length→G (lob lo ks i) (hib hi ks i) (na ps i) (ts.getD i d))→X8 G ks lo hi ps ts
 | [],lo,hi,ps,ts,hp,ht,_,h=>by
  obtain⟨p,rfl⟩:=List.length_eq_one_iff.1 hp;obtain⟨t,rfl⟩:=List.length_eq_one_iff.1 ht;exact⟨p,t,rfl,rfl,h 0 (zlr _)⟩
 | k::r,lo,hi,ps,ts,hp,ht,hk,h=>by
  cases ps with
  | nil=>simp at hp
  | cons p ps'=>
   cases ts with
   | nil=>simp at ht
   | cons t ts'=>
    refine⟨p,ps',t,ts',rfl,rfl,?_,hk k (by simp),x4m (d:=d) (by simpa using hp) (by simpa using ht) (fun x hx=>hk x (by simp[hx])) (fun i hi2=> ?_)⟩
    ·have:=h 0 (by simp)
     simpa [lob,hib,sa,na] using this
    ·have h1:=h (i+1) (by simpa using hi2);have e1:lob lo (k::r) (i+1)=lob (some k) r i:=by
      unfold lob;rw[if_neg (by omega),Nat.add_sub_cancel]
      by_cases h0:i=0
      ·subst h0;rfl
      ·rw[if_neg h0];obtain⟨j,rfl⟩:∃j,i=j+1:=⟨i-1,by omega⟩
       rfl
     have e2:hib hi (k::r) (i+1)=hib hi r i:=by
      unfold hib;simp only[List.length_cons,Nat.add_lt_add_iff_right];rfl
     rw[e1,e2] at h1;exact h1
def VQ (W:World)(Q:Nat→Prop)(i:Nat):Prop:=∃A T fz,W.heap[i]? =some (.cells A T fz)∧(vty T=true∨((T=3∨T=VT)∧Q i))
def NdS (W:World)(Q:Nat→Prop)(h:Nat)(lo hi:SB)(x:NoV)(t:Tr):Prop:=∀W' F,Zx F W W'→(∀i,F i→i<W.heap.size→VQ W Q i)→Dk W' h lo hi x t
section
variable {W W1:World} {Q Q1:Nat→Prop} {h:Nat} {lo hi:SB} {x:NoV} {t:Tr}
theorem NdS.now (hs:NdS W Q h lo hi x t):Dk W h lo hi x t:=hs W (fun _=>False) (Zx.refl _ _) (fun _ hf _=>hf.elim)
theorem NdS.step (hs:NdS W Q h lo hi x t){G:Nat→Prop}(ht:Zx G W W1)(hG:∀i,G i→i<W.heap.size→VQ W Q i)(hQ:∀i,Q1 i→i<W.heap.size→Q i):NdS W1 Q1 h lo hi x t:=fun W' F hF hc=>by
 refine hs W' (fun i=>G i∨F i) ((ht.mono (fun i hi _=> .inl hi)).step hF (fun i hi _=> .inr hi)) (fun i hi hl=> ?_)
 rcases hi with hi|hi
 ·exact hG i hi hl
 ·by_cases hg:G i
  ·exact hG i hg hl
  ·obtain⟨A,T,fz,h1,h2⟩:=hc i hi (Nat.lt_of_lt_of_le hl ht.size);rw[ht.block i hl hg] at h1;exact⟨A,T,fz,h1,h2.imp_right (fun h3=>⟨h3.1,hQ i h3.2 hl⟩)⟩
theorem NdS.ext (hs:NdS W Q h lo hi x t)(hb:zB W W1)(hQ:∀i,Q1 i→i<W.heap.size→Q i):NdS W1 Q1 h lo hi x t:=hs.step (G:=fun _=>False) (x3x hb) (fun _ hf _=>hf.elim) hQ
theorem Dk.turn {w w':World}{F:Nat→Prop}(ht:Zx F w w')(hF:TF w F){h:Nat}{lo hi:SB}{v:NoV}{t:Tr}(hn:Dk w h lo hi v t):Dk w' h lo hi v t:=by
 cases h with
 | zero=>
  obtain⟨es,h0,h1,h2,h3,h4⟩:=hn;exact⟨es,h0,h1,h2,h3.turn ht hF,h4⟩
 | succ h=>
  obtain⟨ks,ps,ts,h0,h1,h2,h3,hr⟩:=hn;exact⟨ks,ps,ts,h0,h1,h2.turn Kj ht hF,h3.turn yZ ht hF,hr.mono (fun _ _ _ _ h5=>⟨h5.1.turn ht hF h,h5.2⟩)⟩
theorem Dk.stay (hn:Dk W h lo hi x t):NdS W (fun i=>W.heap.size≤i) h lo hi x t:=fun W' F ht hc=>by
 refine Dk.turn (F:=fun i=>F i∧i<W.heap.size) (ht.mono (fun i hi hl=>⟨hi,hl⟩)) (fun i hi=> ?_) hn;obtain⟨A,T,fz,h1,h2⟩:=hc i hi.1 hi.2
 rcases h2 with h2|⟨_,h2⟩
 ·exact⟨A,T,fz,h1,h2⟩
 ·have:=hi.2;omega
end
def xV (W:World)(B:Nat)(h:Nat)(lo hi:SB)(x:NoV)(t:Tr):Prop:=∃(Wb:World) (G:Nat→Prop),Dk Wb h lo hi x t∧Wb.heap.size≤B∧Zx G Wb W∧∀i,G i→i<Wb.heap.size→∃A T fz,Wb.heap[i]? =some (.cells A T fz)∧vty T=true
theorem xV.step {W W1:World}{B h:Nat}{lo hi:SB}{x:NoV}{t:Tr}(hs:xV W B h lo hi x t){G:Nat→Prop}(ht:Zx G W W1)(hG:∀i,G i→i<W.heap.size→VQ W (fun b=>B≤b) i):xV W1 B h lo hi x t:=by
 obtain⟨Wb,F,h1,h2,h3,h4⟩:=hs;refine⟨Wb,fun i=>F i∨G i,h1,h2,(h3.mono (fun i hi _=> .inl hi)).step ht (fun i hi _=> .inr hi),fun i hi hl=> ?_⟩
 by_cases hf:F i
 ·exact h4 i hf hl
 ·obtain⟨A,T,fz,g1,g2⟩:=hG i (hi.resolve_left hf) (Nat.lt_of_lt_of_le hl h3.size);rw[h3.block i hl hf] at g1
  rcases g2 with g2|⟨_,g2⟩
  ·exact⟨A,T,fz,g1,g2⟩
  ·omega
theorem xV.ext {W W1:World}{B h:Nat}{lo hi:SB}{x:NoV}{t:Tr}(hs:xV W B h lo hi x t)(hb:zB W W1):xV W1 B h lo hi x t:=hs.step (G:=fun _=>False) (x3x hb) (fun _ hf _=>hf.elim)
theorem xV.s {W:World}{B h:Nat}{lo hi:SB}{x:NoV}{t:Tr}(hs:xV W B h lo hi x t):NdS W (fun b=>B≤b) h lo hi x t:=by
 obtain⟨Wb,F,h1,h2,h3,h4⟩:=hs;exact h1.stay.step h3 (fun i hi hl=>by
  obtain⟨A,T,fz,g1,g2⟩:=h4 i hi hl;exact⟨A,T,fz,g1,.inl g2⟩) (fun i hi hl=>by omega)
theorem xV.kids {W:World}{B h:Nat}{lo hi:SB}{x:NoV}{t:Tr}(hs:xV W B (h+1) lo hi x t):∃ks qs ts vs,t=.bran x.pg ks ts∧x.c=Z0∧EV V5 W x.k ks∧EV V8 W x.p qs∧vs.length=qs.length∧qs.length=ks.length+1∧ts.length=ks.length+1∧Pw ks∧(∀k∈ks,okK k=true)∧
  (∀t∈ts,126≤t.sz∧t.sz≤504)∧∀i,i<vs.length→NPv W (na qs i) (va vs i)∧xV W B h (lob lo ks i) (hib hi ks i) (va vs i) (ta ts i):=by
 obtain⟨Wb,F,h1,h2,h3,h4⟩:=hs;obtain⟨ks,qs,ts,h5,h6,h7,h8,hr⟩:=h1;obtain⟨vs,hvl,hvs⟩:=hr.vals;have hl:=hr.len;have hT:TF Wb (fun i=>F i∧i<Wb.heap.size):=fun i hi=>h4 i hi.1 hi.2
 have h3':Zx (fun i=>F i∧i<Wb.heap.size) Wb W:=h3.mono (fun i hi hl=>⟨hi,hl⟩);refine⟨ks,qs,ts,vs,h5,h6,h7.turn Kj h3' hT,h8.turn yZ h3' hT,hvl,hl.1,hl.2,hr.good.keys zU.facts,hr.factsT.2.2.2,hr.all (fun _ _ _ _ hg=>hg.2),fun i hi=> ?_⟩;obtain⟨g1,g2,_⟩:=hvs i (by omega);exact⟨NP.turn g1 h3' hT,Wb,F,g2,h2,h3,h4⟩
theorem OCk.stay {w W:World}{x:NoV}{lo hi:SB}{cs:List En}(hc:OCk W w.heap.size x.c cs cs.length)(h1:x.k=Z0)(h2:x.p=Z0)(h3:ltO lo hi)(h4:srt cs)(h5:∀e∈cs,okE e∧ins lo hi e.k):NdS W (fun i=>i<w.heap.size) 0 lo hi x (.leaf x.pg cs):=fun W' F ht hF=>by
 refine⟨cs,rfl,h1,h2,?_,h3,h4,h5⟩;obtain⟨xs,ho,hr,hf⟩:=hc;have hl:=hr.len;have hno:∀{b T:Nat} {A:Array Value} {fz:Nat×Nat},W.heap[b]? =some (.cells A T fz)→vty T=false→((T=3∨T=VT)→w.heap.size≤b)→¬F b:=fun{b T A fz} hb hT hlo hFb=>by
  obtain⟨A2,T2,fz2,g1,g2⟩:=hF b hFb (zag.1 hb).1;rw[hb] at g1;injection g1 with g1
  injection g1 with _ g1 _
  rcases g2 with g2|⟨g2,g3⟩
  ·rw[←g1,hT] at g2;cases g2
  ·have:=hlo (g2.imp g1.trans g1.trans);omega
 have ho':W'.ownsRow w.heap.size TCT Uw.sz x.c xs.length (Uw.row xs):=by
  refine⟨ho.1,?_⟩
  rcases ho.2 with h6|⟨b,cap,cur,e,hb,hgb,h6⟩
  ·exact .inl h6
  ·exact .inr ⟨b,cap,cur,e,hb,ht.hg hgb (hno hgb (by decide) (fun e=>absurd e (by decide))),h6⟩
 refine x4s (U3 (T:=TCT) ho') ?_;have key:∀(ys:List Rw) (es:List En),RW W ys es→(∀j,j<ys.length→∀a,(xa ys j).a=some a→w.heap.size≤a.block)→RW W' ys es:=by
  intro ys
  induction ys with
  | nil=>intro es;cases es<;>intro h _<;>exact h
  | cons y r ih=>
   intro es h hf
   cases es with
   | nil=>exact h.elim
   | cons e s=>
    refine⟨⟨h.1.1,h.1.2.1,?_⟩,ih s h.2 (fun j hj a ha=>hf (j+1) (by simpa using hj) a ha)⟩;obtain⟨a,c,e1,hs,h7⟩:=h.1.2.2;refine⟨a,c,e1,?_,h7⟩
    rcases hs with hs|⟨g,o,rfl,⟨A,T,fz,g1,g2⟩,hcell⟩
    ·exact .inl hs
    ·have hlo:w.heap.size≤g:=hf 0 (by simp) ⟨g,o,none⟩ (by
      have:y.sl=.slice (some ⟨g,o,none⟩) e.ch.length c:=e1;unfold Rw.sl at this;injection this)
     have hT:vty T=false:=Dj T g2;have hg:=hno g1 hT (fun _=>hlo);refine .inr ⟨g,o,rfl,⟨A,T,fz,ht.hg g1 hg,g2⟩,fun j u hu=> ?_⟩;have h8:=hcell j u hu;rw[ht.cell (p:=⟨g,o+j,none⟩) (block_lt_of_cell h8) hg];exact h8
 exact key xs cs hr (fun j hj a ha=>hf j (by omega) a ha)
end Go.Proofs.YtdgladhfibfdlaaGreatDoor
