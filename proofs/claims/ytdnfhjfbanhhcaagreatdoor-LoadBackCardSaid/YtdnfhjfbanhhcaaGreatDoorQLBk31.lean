/-
  Steps.
-/
import Derived.Test.YtdnfhjfbanhhcaaGreatDoorQLBk30
namespace Go.Proofs.YtdnfhjfbanhhcaaGreatDoor
open Go Go.RowKit
theorem z15 {fn:Func}{p u x:Tmp}{ty:TypeId}(h:fn.results= #[.cell p ty,.tmp u,.tmp x])(tmps:Array Value)(P:Program)(w:World):
  (results fn tmps).run P w=
   ((asAddr (tmps.getD p undef)).run P w).andThen fun a w₁=>((loadVar ty a).run P w₁).andThen fun v w₂=> .ok (.tuple #[v,tmps.getD u undef,tmps.getD x undef]) w₂:=by
 simp only[results,h];simp[Sem.run_bind,Result.andThen]
theorem q0n:(Tryz.prog.info? 5).map (fun i=>(i.zero,i.size,i.bytes))=some (some (.int .u8 0),1,1):=by kernel_rfl
def q0o:Value→Nat| .string s=>s.size|_=>0
theorem y9k (a b:ByteArray):(a++b).size=a.size+b.size:=by simp
theorem q25 {es:List En}{key v:ByteArray}(hk:okK key=true)(hv:v.size≤2048)(hl:es.length<4096):tpF es key v=0∧tpL es key v=rep es key [⟨key,v,[]⟩]:=by
 have:tpF es key v=0:=by unfold tpF;rw[if_neg (by rw[hk];decide),if_neg (by omega),if_neg (fun h=>by omega)]
 exact⟨this,by unfold tpL;rw[this];rfl⟩
theorem q26 (es:List En)(key v:ByteArray):(tpL es key v).length≤es.length+1:=by
 unfold tpL;split
 ·have:=z7c es key [⟨key,v,[]⟩];simp at this;omega
 ·simp
def NewP (w:World)(p:Option Addr)(es:List En)(H:Nat):Prop:=∃ts,z0y w p ts H∧esL ts=es∧(∀e∈es,e.ch=[]∧e.v.size≤89)∧∀q,(pgsL ts).count q=0
theorem NewP.none (w:World):NewP w Option.none [] 0:=⟨[],z0y.none w,rfl,fun e he=>(by cases he),fun q=>rfl⟩
theorem NewP.ext {w w':World}{p:Option Addr}{es:List En}{H:Nat}(h:NewP w p es H)(hb:Below w.heap.size w w'):NewP w' p es H:=by
 obtain⟨ts,h1,h2⟩:=h;exact⟨ts,h1.ext hb,h2⟩
theorem NewP.turn {w w':World}{F:Nat→Prop}{p:Option Addr}{es:List En}{H:Nat}(h:NewP w p es H)(t:Turn F w w')(hF:TF w F):NewP w' p es H:=by
 obtain⟨ts,h1,h2⟩:=h;exact⟨ts,h1.turn t hF,h2⟩
theorem q27 (p:Option Addr)(es:List En)(H:Nat)(key v:ByteArray)(w:World)(h:NewP w p es H)(hl:es.length≤4096)(hv:v.size≤89):
  Calls Tryz.prog 25 #[.agg #[.pointer p,.int .i64 es.length],.string key,.string v] w fun e w'=>∃p' H',e=.returned (.tuple #[.agg #[.pointer p',.int .i64 ((tpL es key v).length:Nat)],errC (tpF es key v:Nat)])∧NewP w' p' (tpL es key v) H'∧Below w.heap.size w w':=by
 obtain⟨ts,h1,rfl,h2,h3⟩:=h;refine(y23 p ts H key v w h1 hl).mono ?_;rintro e w' ⟨p',ts',H',rfl,h4,h5,hb⟩
 rcases h5 with ⟨h5,rfl⟩|⟨h5,h6⟩
 ·have e1:tpL (esL ts) key v=[]:=by unfold tpL;rw[if_neg h5]
  rw[e1];exact⟨p',H',rfl,⟨[],h4,rfl,fun e he=>(by cases he),fun q=>rfl⟩,hb⟩
 ·have e1:tpL (esL ts) key v=rep (esL ts) key [⟨key,v,[]⟩]:=by unfold tpL;rw[if_pos h5]
  have hch:∀e∈rep (esL ts) key [⟨key,v,[]⟩],e.ch=[]∧e.v.size≤89:=fun e he=>by
   unfold rep at he
   rcases List.mem_append.1 he with he|he
   ·exact h2 e (List.mem_of_mem_take he)
   ·rcases List.mem_append.1 he with he|he
    ·rw[List.mem_singleton.1 he];exact⟨rfl,hv⟩
    ·exact h2 e (List.mem_of_mem_drop he)
  have e2:esL ts'=rep (esL ts) key [⟨key,v,[]⟩]:=by
   rcases h6 with ⟨h7,_⟩|⟨rfl,h7,h8⟩
   ·exact h7
   ·exact(y9i (y8q (fun e he=>(h2 e he).1)) h7 h8).symm
  rw[e1,←e2];exact⟨p',H',rfl,⟨ts',h4,rfl,by rw[e2];exact hch,fun q=>by
   have h9:=h6.fr.pg q;have h10:=h3 q;omega⟩,hb⟩
structure Gr (w wr:World) (lv:Value) (k:Nat) (es:List En) (p:Option Addr) (H:Nat):Prop where
 l:EV entE wr lv es
 t:TB wr (w.heap.size+1) p es.length
 r:TB wr w.heap.size none 0
 tr:NewP wr p es H
 n:es.length≤k
 b:Below w.heap.size w wr
 g0:∀{w'},Below w.heap.size w w'→Hg w'
theorem Gr.next {w wr:World}{lv:Value}{k:Nat}{es es2:List En}{p p2:Option Addr}{H H2:Nat}(h:Gr w wr lv k es p H){w6:World}{u:Value}(hb:Below wr.heap.size wr w6)(hu:EV entE w6 u es2)(ht:NewP w6 p2 es2 H2)(hn:es2.length≤k+1):
  Gr w ((w6.setCell ⟨w.heap.size+1,0,none⟩ (.pointer p2)).setCell ⟨w.heap.size+1,1,none⟩ (.int .i64 es2.length)) u (k+1) es2 p2 H2:=by
 have t6:=h.t.ext hb;have t:=z0m w6 (w.heap.size+1) (.pointer p2) (.int .i64 es2.length);have hF:TF w6 (fun i=>i=w.heap.size+1):=TF.one t6;have hbw:=h.b.trans (hb.mono h.b.size);have hfin:=z1m (b:=w.heap.size+1) (u:=.pointer p2) (v:=.int .i64 es2.length) hbw (by omega);exact⟨hu.turn y9f t hF,t6.put p2 _,(h.r.ext hb).turn t (by omega),ht.turn t hF,hn,hfin,fun h2=>h.g0 h2⟩
set_option maxRecDepth 100000 in
theorem x5k (n seed:Nat)(w:World)(hn:n≤200)(hsd:seed≤65535)(hg:Hg w):
  Calls Tryz.prog 5 #[.int .i64 n,.int .i64 seed] w fun e w'=>∃p H es l,e=.returned (.tuple #[.agg #[.pointer p,.int .i64 es.length],l,.bool true])∧NewP w' p es H∧EV entE w' l es∧es.length≤n∧Below w.heap.size w w':=by
 obtain⟨W,hW,hT1,hT2,hb⟩:∃W,(w.alloc (.cells #[.pointer none,.int .i64 0] TT)).alloc (.cells #[.pointer none,.int .i64 0] TT)=W∧TB W w.heap.size none 0∧TB W (w.heap.size+1) none 0∧Below w.heap.size w W:=x5j w none 0;have HW:=zh hW;have Hgr:Hid (Gr w W nilS 0 [] none 0):=⟨EV.none _,hT2,hT1,NewP.none _,by simp,hb,fun h=>hg.below h⟩
 have Hn:=zh hn;clear hW hT1 hT2 hb hg
 go_enter Tryz.func5,Tryz.ntmps5
 go_wp2_with fail;rw[HW.out]
 go_loopw [7,9,10,11,12,13,14,15,16] (fun lv i _ _ _ _ _ _ _ wr=>∃(k:Nat) (es:List En) (p:Option Addr) (H:Nat) (v:Value),v=lv∧i=.int .i64 k∧k≤n∧Hid (Gr w wr v k es p H)) (fun _ i _ _ _ _ _ _ _ _=>n-(intOf i).toNat)
 case atStart=>exact⟨0,[],none,0,nilS,rfl,rfl,by omega,Hgr⟩
 case round=>
  obtain⟨k,es,p,H,v,rfl,rfl,hk,hgr⟩:=hrel
  by_cases hlt:k<n
  ·obtain⟨X,hX⟩:∃X,X=k*37+seed:=⟨_,rfl⟩
   have eX:(k:Int)*37+(seed:Int)=(X:Int):=by omega
   obtain⟨K,hK⟩:∃K,K=X%4001:=⟨_,rfl⟩
   have eK:(X:Int).tmod 4001=(K:Int):=by rw[Int.tmod_eq_emod_of_nonneg (by omega)];omega
   have hK9:K≤4000:=by omega
   have hX9:X≤80000:=by omega
   obtain⟨Q,hQ⟩:∃Q,Q=K/256:=⟨_,rfl⟩
   have eQ:(K:Int).tdiv 256=(Q:Int):=by rw[Int.tdiv_eq_ediv_of_nonneg (by omega)];omega
   have hQ9:Q≤15:=by omega
   have wQ:IntKind.u8.wrap (Q:Int)=(Q:Int):=by rw[IntKind.wrap_u8];omega
   obtain⟨B1,hB1⟩:∃B1,B1=K%256:=⟨_,rfl⟩
   have wB1:IntKind.u8.wrap (K:Int)=(B1:Int):=by rw[IntKind.wrap_u8];omega
   obtain⟨B2,hB2⟩:∃B2,B2=k%3:=⟨_,rfl⟩
   have eB2:(k:Int).tmod 3=(B2:Int):=by rw[Int.tmod_eq_emod_of_nonneg (by omega)];omega
   have wB2:IntKind.u8.wrap (B2:Int)=(B2:Int):=by rw[IntKind.wrap_u8];omega
   obtain⟨M,hM⟩:∃M,M=K%30:=⟨_,rfl⟩
   have eM:(K:Int).tmod 30=(M:Int):=by rw[Int.tmod_eq_emod_of_nonneg (by omega)];omega
   have hM9:M≤29:=by omega
   obtain⟨Y,hY⟩:∃Y,Y=K*7+seed:=⟨_,rfl⟩
   have eY:(K:Int)*7+(seed:Int)=(Y:Int):=by omega
   obtain⟨V,hV⟩:∃V,V=Y%90:=⟨_,rfl⟩
   have eV:(Y:Int).tmod 90=(V:Int):=by rw[Int.tmod_eq_emod_of_nonneg (by omega)];omega
   have hV9:V≤89:=by omega
   have hY9:Y≤100000:=by omega
   --the key's first bytes
   have hsrc3:Src (wr.alloc (.cells #[.int .u8 (Q:Int),.int .u8 (B1:Int),.int .u8 (B2:Int)] 5)) (some ⟨wr.heap.size,0,none⟩) [Q,B1,B2]:=(x2b wr 5 (0,0) [Q,B1,B2]).src;have hcv:=z59 (P:=Tryz.prog) 46 5 9 Tryz.underlying46 Tryz.underlying5 Tryz.underlying9 (some ⟨wr.heap.size,0,none⟩) 3 3 [Q,B1,B2] rfl _ hsrc3;have hxs:=z58 [Q,B1,B2];generalize bstr [Q,B1,B2]=x3 at*;obtain⟨y4,hy4⟩:∃y4,(⟨#[107]⟩:ByteArray)++x3=y4:=⟨_,rfl⟩
   have hys:y4.size=4:=by rw[←hy4,y9k,hxs];rfl
   have hno:¬(9223372036854775807<1+x3.size):=by rw[hxs];simp
   have Hys:=zh hys;obtain⟨W1,hW1⟩:∃W1,wr.alloc (.cells #[.int .u8 (Q:Int),.int .u8 (B1:Int),.int .u8 (B2:Int)] 5)=W1:=⟨_,rfl⟩
   have HW1:=zh hW1;have hb1:Below wr.heap.size wr W1:=by rw[←hW1];exact(zbr _ _).alloc (zlr _) _
   have Hb1:=zh hb1;clear hX hK hQ hB1 hB2 hM hY hV hsrc3 hxs hys hW1 hb1;go_wp2_with fail;rw[HW1.out]
   go_loopw [11] (fun s wr2=>∃y:ByteArray,s=.string y∧4≤y.size∧y.size≤33∧W1=wr2) (fun s _=>40-q0o s)
   case atStart=>exact⟨y4,rfl,by rw[Hys.out];exact zlr _,by rw[Hys.out];omega,by first|trivial|rfl⟩
   case round=>
    obtain⟨y,rfl,hy1,hy2,rfl⟩:=hrel
    by_cases hys:y.size<4+M
    ·obtain⟨y',hy'⟩:∃y',y++(⟨#[46]⟩:ByteArray)=y':=⟨_,rfl⟩
     have hsz:Hid (y'.size=y.size+1):=by show _=_;rw[←hy',y9k];rfl
     have hno2:¬(9223372036854775807<y.size+1):=by omega
     have d5:(y.size:Int)<4+(M:Int):=by omega
     go_wp2
     go_roundw
     case rel=>exact⟨y',rfl,by rw[hsz.out];omega,by rw[hsz.out];omega,by first|trivial|rfl⟩
     case measure=>have:=hsz.out;simp[q0o];omega
    ·have d5:¬(y.size:Int)<4+(M:Int):=by omega
     obtain⟨W2,hmk,hrow,hb2⟩:=z5i (P:=Tryz.prog) W1 46 5 Tryz.underlying46 q0n .i64 .i64 V (by omega);have hcv2:=z59 (P:=Tryz.prog) 46 5 9 Tryz.underlying46 Tryz.underlying5 Tryz.underlying9 (some ⟨W1.heap.size,0,none⟩) V V (List.replicate V 0) (by simp) W2 (z8w hrow);have hz9:(bstr (List.replicate V 0)).size≤89:=by rw[z58];simp;omega
     have hzs:(bstr (List.replicate V 0)).size≤2048:=by omega
     generalize bstr (List.replicate V 0)=z at*;have hbw2:=Hb1.out.trans (hb2.mono Hb1.out.size);have hG:=hgr.out;have t2:=hG.t.ext hbw2;have c0:=t2.c0;have c1:=t2.c1;have Hput:=zh (q27 p es H y z W2 (hG.tr.ext hbw2) (by have:=hG.n;have:=Hn.out;omega) hz9);have hkey:okK y=true:=by unfold okK;simp;omega
     have htp:=q25 (es:=es) hkey hzs (by have:=hG.n;have:=Hn.out;omega);have hle:=q26 es y z;rw[htp.1] at Hput;have Htl:=zh hle;have Hbw2:=zh hbw2;obtain⟨N,hN⟩:∃N,(tpL es y z).length=N:=⟨_,rfl⟩
     have HNN:=zh hN;rw[hN] at Hput;have hl5:es.length≤4096:=by have:=hG.n;have:=Hn.out;omega
     have Href:Hid (∀(a:Option Addr) (c:Nat) (w4:World),ES entE w4 a es→(a=none→c=0)→es.length≤c→c≤maxLen→Calls Tryz.prog 27 #[.slice a es.length c,.string y,.string z] w4 fun e w'=>∃u,e=.returned (.tuple #[u,.int .i64 0])∧EV entE w' u (tpL es y z)∧Below w4.heap.size w4 w'):=fun a c w4 h1 h2 h3 h4=>by
      have:=x0x a es.length c es y z w4 rfl h1 (by omega) h2 h3 h4;rw[htp.1] at this;exact this
     obtain⟨a0,c9,rfl,s0,z0,n0,m0⟩:=hG.l;have HS:=zh (zai s0 (zai z0 (zai n0 m0)));clear hrow hb2 hzs hz9 hbw2 hG t2 hkey htp hle hN s0 z0 n0 m0 hys hy1 hy2;go_wp2_with fail;refine Hput.out.mono ?_;rintro e w3 ⟨p3,H3,rfl,ht3,hb3⟩;rw[show errC ((0:Nat):Int)=.nilIface from rfl];have hb03:=Hbw2.out.trans (hb3.mono Hbw2.out.size);obtain⟨w4,hw4,hT4,hb4⟩:=z0b w3 TT #[.pointer p3,.int .i64 (N:Int)];have hb04:=hb03.trans (hb4.mono hb03.size);have Hw4:=zh hw4;have HT4:=zh hT4;have Ht3:=zh (ht3.ext hb4);have Hb04:=zh hb04;have Href4:=zh (Href.out a0 c9 w4 (HS.out.1.below hb04 (zlr _)) HS.out.2.1 HS.out.2.2.1 HS.out.2.2.2);have Hl3:=zh (zag.1 hT4).1;clear ht3 hb3 hb03 hw4 hT4 hb4 hb04 Hput Href c0 c1 hcv2 hmk;go_wp2_with fail;rw[Hw4.out];refine Href4.out.mono ?_;rintro e w5 ⟨u,rfl,⟨a5,c5,rfl,s5⟩,hb5⟩;have hb05:=Hb04.out.trans (hb5.mono Hb04.out.size);have Hnum:=zh (x1o w5);have Hb05:=zh hb05;have HS5:=zh s5;have HT5:Hid (TB w5 w3.heap.size p3 (N:Int)):=TB.ext (w:=w4) HT4.out hb5;have Ht5:=zh (Ht3.out.ext hb5);rw[HNN.out];clear s5 hb5 hb05 Href4 HT4 Ht3;go_wp2_with fail;refine Hnum.out.mono ?_;rintro e w6 ⟨rfl,hb6⟩;have hb06:=Hb05.out.trans (hb6.mono Hb05.out.size);have t6:=HT5.out.ext hb6;have c0:=t6.c0;have c1:=t6.c1;have hG:=hgr.out;have f0:=(hG.t.ext hb06).fz 0;have f1:=(hG.t.ext hb06).fz 1;have g0:=(hG.t.ext hb06).c0;have g1:=(hG.t.ext hb06).c1;have hev:EV entE w6 (.slice a5 N c5) (tpL es y z):=⟨a5,c5,by rw[HNN.out],HS5.out.1.below hb6 (zlr _),HS5.out.2⟩
     have hfin:=hG.next (es2:=tpL es y z) (p2:=p3) (H2:=H3) hb06 hev (Ht5.out.ext hb6) (by have:=Htl.out;have:=hG.n;omega);rw[HNN.out] at hfin;have Hfin:=zh hfin;clear hb6 hb06 t6 hG hev hfin Hnum HS5 Ht5 HT5;go_wp2_with fail
     go_roundw
     case rel=>exact⟨k+1,tpL es y z,p3,H3,_,rfl,by go_num,by omega,Hfin⟩
     case measure=>simp[intOf];omega
  ·have hG:=hgr.out;have c0:=hG.t.c0;have c1:=hG.t.c1;have r0:=hG.r.c0;have r1:=hG.r.c1;have f0:=hG.r.fz 0;have f1:=hG.r.fz 1;have t:=z0m wr w.heap.size (.pointer p) (.int .i64 es.length);have HT:=zh (hG.tr.turn t (TF.one hG.r));have HE:=zh (hG.l.turn y9f t (TF.one hG.r));have HP:=zh (hG.r.put p (es.length:Int));have d0:=HP.out.c0;have d1:=HP.out.c1;have Hb:=zh (z1m (b:=w.heap.size) (u:=.pointer p) (v:=.int .i64 es.length) hG.b (zlr _));have Hnn:=zh hG.n;obtain⟨a0,c9,rfl,_⟩:=hG.l;clear hG t hgr;go_wp2_with fail;refine bodyPost_ret (v:=.tuple #[.agg #[.pointer p,.int .i64 (es.length:Int)],.slice a0 es.length c9,.bool true]) (by rw[z15 rfl];go_simp) rfl ⟨p,H,es,_,rfl,HT.out,HE.out,by have:=Hnn.out;omega,Hb.out⟩
end Go.Proofs.YtdnfhjfbanhhcaaGreatDoor
