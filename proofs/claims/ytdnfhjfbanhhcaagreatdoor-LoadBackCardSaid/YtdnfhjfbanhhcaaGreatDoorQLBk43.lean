/-
  Steps.
-/
import Derived.Test.YtdnfhjfbanhhcaaGreatDoorQLBk42
import Derived.Test.YtdnfhjfbanhhcaaGreatDoorQLBk32
namespace Go.Proofs.YtdnfhjfbanhhcaaGreatDoor
open Go Go.RowKit
theorem SpB.ins {s:Sp}{lo hi:SB}(h:SpB s lo hi){k:ByteArray}(hk:hasS s k=true):ins lo hi k:=by
 obtain⟨h1,h2⟩:=h;unfold hasS at hk;rw[Bool.and_eq_true,Bool.or_eq_true] at hk;unfold Proofs.YtdnfhjfbanhhcaaGreatDoor.ins;refine⟨?_,?_⟩
 ·cases lo with
  | none=>trivial
  | some a=>
   have h1:s.lo=a:=h1;have:=hk.1;rw[h1] at this;show blt k a=false
   simpa using this
 ·cases hi with
  | none=>trivial
  | some b=>
   obtain⟨h3,h4⟩:=h2;show blt k b=true
   rcases hk.2 with h5|h5
   ·rw[h3] at h5;cases h5
   ·rw[h4] at h5;exact h5
theorem q5q {lo hi:SB}{k:ByteArray}(h:ins lo hi k):ltO lo hi:=by
 unfold Proofs.YtdnfhjfbanhhcaaGreatDoor.ins at h;unfold ltO
 cases lo with
 | none=>trivial
 | some a=>
  cases hi with
  | none=>trivial
  | some b=>exact q0b h.1 h.2
theorem x6k {P:List (List Nat)}{f:Nat}{b:List Nat}{s:Sp}{deep:Int}{o o1:RO}{es:List En}(h:ldL P f b s deep o=some (o1,es)){lo hi:SB}(hs:SpB s lo hi):
  srt es∧ltO lo hi∧(∀e∈es,okE e∧ins lo hi e.k)∧z0s es=b.length∧b.length≤504∧es≠[]∧Opn P o o1 (fun p=>(chL es).count p)∧o1.d=deep∧o1.l=o.l++bare es∧(∀e∈es,EnL P e)∧es.length≤504∧(o.d=0∨o.d=deep):=by
 unfold ldL at h;split at h
 ·cases h
 ·rename_i hdp
  split at h
  ·cases h
  ·rename_i cs hcs
   split at h
   ·cases h
   ·rename_i hn
    obtain⟨c1,c2,c3,c4⟩:=z46 hcs;obtain⟨d1,d2,d3,d4,d5,d6,d7⟩:=z4x P f s cs _ o1 es h c2;have hne:es≠[]:=fun e=>hn (List.eq_nil_of_length_eq_zero (by rw[←d1,e];rfl))
    have hin:∀e∈es,okE e∧ins lo hi e.k:=fun e he=>⟨(d7 e he).1.1,hs.ins (d7 e he).2⟩
    refine⟨q2z c3 d6,?_,hin,y5i d1 d5 c1,c4,hne,d2,d4,d3,fun e he=>(d7 e he).1,by rw[d1];exact y2f hcs,?_⟩
    ·cases es with
     | nil=>exact absurd rfl hne
     | cons e r=>exact q5q (hin e (by simp)).2
    ·have:z4g o.d deep=deep:=Decidable.not_not.1 hdp;unfold z4g at this;split at this
     ·exact .inl (by assumption)
     ·exact .inr this
theorem x6l {W5 W6:World}{s0 h n:Nat}{fv:Value}{lo hi:SB}{ks:List ByteArray}{xs:List NoV}{tl:List Tr}{x:NoV}{nps:List Nat}(hs5:s0≤W5.heap.size)
  (new:∀i,i<n→NdS W5 (fun b=>b<s0∨fv.ownBlock=some b) h (lob lo ks i) (hib hi ks i) (va xs i) (ta tl i)) (hb:Below W5.heap.size W5 W6) (hc:x.c=nilS) (hk:EV strE W6 x.k ks) (hp:EV ptrE W6 x.p nps) (hpl:nps.length=n) (hvb:∀i,i<n→VB4 W6 (na nps i) (va xs i)∧W5.heap.size<na nps i)
  (hkl:ks.length+1=n) (htl:tl.length=n) (hok:∀k∈ks,okK k=true) (hgs:∀t∈tl,126≤t.sz∧t.sz≤504):NdS W6 (fun b=>b<s0) (h+1) lo hi x (.bran x.pg ks tl):=fun W' F t hcd=>by
 have hG:∀i,F i→i<W6.heap.size→VQ W6 (fun b=>b<s0) i:=hcd;have hno:∀{b T:Nat} {A:Array Value} {fz:Nat×Nat},W6.heap[b]? =some (.cells A T fz)→vty T=false→((T=3∨T=VT)→s0≤b)→¬F b:=fun{b T A fz} hb hT hlo hFb=>by
  obtain⟨A2,T2,fz2,g1,g2⟩:=hG b hFb (zag.1 hb).1;rw[hb] at g1;injection g1 with g1
  injection g1 with _ g1 _
  rcases g2 with g2|⟨g2,g3⟩
  ·rw[←g1,hT] at g2;cases g2
  ·have:=hlo (g2.imp g1.trans g1.trans);omega
 have hev:∀{α:Type} {E:Elt α} {v:Value} {l:List α},(∀T,E.ty T=true→vty T=false∧T≠3∧T≠VT)→EV E W6 v l→EV E W' v l:=fun{α E v l} hE hv=>by
  obtain⟨a,c,rfl,hs,h1⟩:=hv;refine⟨a,c,rfl,?_,h1⟩
  rcases hs with hs|⟨g,o,rfl,⟨A,T,fz,ht,hT⟩,hcell⟩
  ·exact .inl hs
  ·have hE':=hE T hT;have hg:=hno ht hE'.1 (fun h=>h.elim (fun h=>absurd h hE'.2.1) (fun h=>absurd h hE'.2.2));refine .inr ⟨g,o,rfl,⟨A,T,fz,t.hg ht hg,hT⟩,fun j u hu=> ?_⟩;have h1:=hcell j u hu;rw[t.cell (p:=⟨g,o+j,none⟩) (block_lt_of_cell h1) hg];exact h1
 refine⟨ks,nps,tl,rfl,hc,hev (fun T hT=> ?_) hk,hev (fun T hT=> ?_) hp,q59 (d:=default) (by omega) (by omega) hok (fun i hi=> ?_)⟩
 ·have h1:(T==9)=true:=hT;obtain rfl:=eq_of_beq h1
  decide
 ·have h1:(T==PNT)=true:=hT;obtain rfl:=eq_of_beq h1
  decide
 ·have hin:i<n:=by omega
  obtain⟨v1,v2⟩:=hvb i hin;have hv1:VB4 W' (na nps i) (va xs i):=t.hg v1 (hno v1 (by decide) (fun _=>by omega));have hnd:=((new i hin).ext (Q1:=fun b=>b<s0∨fv.ownBlock=some b) hb (fun _ h _=>h)) W' _ t (fun b hb hl=>by
   obtain⟨A,T,fz,g1,g2⟩:=hG b hb hl;exact⟨A,T,fz,g1,g2.imp_right (fun h3=>⟨h3.1,.inl h3.2⟩)⟩)
  exact⟨NdVT.node hv1.np hnd,hgs _ (z8b (by omega))⟩
structure KdI (w W:World) (u:Value) (h:Nat) (lo hi:SB) (ks:List ByteArray) (xs:List NoV) (ts:List Tr) (i:Nat):Prop where
 own:W.ownsRow w.heap.size VT nodE.sz u i (nodE.row xs)
 xl:xs.length=i
 tl:ts.length=i
 new:∀j,j<i→NdS W (fun b=>b<w.heap.size∨u.ownBlock=some b) h (lob lo ks j) (hib hi ks j) (va xs j) (ta ts j)
 sz:∀t∈ts,126≤t.sz∧t.sz≤504
theorem KdI.ext {w W W':World}{u:Value}{h:Nat}{lo hi:SB}{ks:List ByteArray}{xs:List NoV}{ts:List Tr}{i:Nat}(hI:KdI w W u h lo hi ks xs ts i)(hb:Below W.heap.size W W'):KdI w W' u h lo hi ks xs ts i:=
 ⟨z0p hI.own hb (zlr _),hI.xl,hI.tl,fun j hj=>(hI.new j hj).ext hb (fun _ h _=>h),hI.sz⟩
theorem KdI.var {w W W':World}{u:Value}{h:Nat}{lo hi:SB}{ks:List ByteArray}{xs:List NoV}{ts:List Tr}{i g:Nat}{T:TypeId}{A:Array Value}{fz:Nat×Nat}(hI:KdI w W u h lo hi ks xs ts i)(ht:Turn (fun b=>b=g) W W')(hg:W.heap[g]? =some (.cells A T fz))(hT:vty T=true)(hT2:T≠VT):KdI w W' u h lo hi ks xs ts i:=
 ⟨z17 hI.own ht (TyF.one hg) hT2,hI.xl,hI.tl,fun j hj=>(hI.new j hj).step ht (fun b hb _=>by subst hb;exact⟨A,T,fz,hg,.inl hT⟩) (fun _ h _=>h),hI.sz⟩
theorem KdI.app {w W:World}{u:Value}{h:Nat}{lo hi:SB}{ks:List ByteArray}{xs:List NoV}{ts:List Tr}{i:Nat}{x:NoV}{t:Tr}(hI:KdI w W u h lo hi ks xs ts i)(hw:w.heap.size≤W.heap.size)(hi9:i≤100000)
  (hx:NdS W (fun b=>b<w.heap.size∨u.ownBlock=some b) h (lob lo ks i) (hib hi ks i) x t) (hz:126≤t.sz∧t.sz≤504):
  ∃v' w',(Builtin.append_ #[130,130] 130 #[u,.slice (some ⟨W.heap.size,0,none⟩) 1 1]).run Tryz.prog (W.alloc (.cells #[.int .i64 (x.pg:Nat),x.c,x.k,x.p] VT))=.ok v' w'∧KdI w w' v' h lo hi ks (xs++[x]) (ts++[t]) (i+1)∧
   ∃F,Turn F W w'∧(∀b,F b→w.heap.size≤b)∧TyF W F VT:=by
 have hba:Below W.heap.size W (W.alloc (.cells #[.int .i64 (x.pg:Nat),x.c,x.k,x.p] VT)):=(zbr _ _).alloc (zlr _) _;have ho1:=z0p hI.own hba (zlr _);have hxl:=hI.xl;have htl:=hI.tl;have hlit:ES nodE (W.alloc (.cells #[.int .i64 (x.pg:Nat),x.c,x.k,x.p] VT)) (some ⟨W.heap.size,0,none⟩) [x]:=ES.lit (z0h W VT #[.int .i64 (x.pg:Nat),x.c,x.k,x.p]) (by simp[nodE]);obtain⟨v1,w4,hrun,ht4,ho4,hn4⟩:=z3g (P:=Tryz.prog) (E:=nodE) (w:=W.alloc (.cells #[.int .i64 (x.pg:Nat),x.c,x.k,x.p] VT)) w.heap.size 130 130 VT Tryz.underlying130 q48 u i xs ho1 (by simp;omega) (some ⟨W.heap.size,0,none⟩) 1 1 [x] rfl (by omega) hlit (by unfold maxLen;omega) (by show _*80≤_;omega);have hst:∀{j lo' hi' y z},NdS W (fun b=>b<w.heap.size∨u.ownBlock=some b) j lo' hi' y z→NdS w4 (fun b=>b<w.heap.size∨v1.ownBlock=some b) j lo' hi' y z:=fun hj=>by
  have h1:=hj.ext (Q1:=fun b=>b<w.heap.size∨u.ownBlock=some b) hba (fun _ h _=>h);refine h1.step ht4 (fun b hb _=> ?_) (fun b hb hl=> ?_)
  ·obtain⟨A,fz,hA⟩:=TyF.own ho1 b hb;exact⟨A,VT,fz,hA,.inr ⟨.inr rfl,.inr hb⟩⟩
  ·rcases hb with hb|hb
   ·exact .inl hb
   ·rcases hn4 b hb with h2|h2
    ·exact .inr h2
    ·omega
 refine⟨v1,w4,hrun,⟨ho4,by rw[zla,hxl];rfl,by rw[zla,htl];rfl,fun j hj=> ?_,fun y hy=> ?_⟩,fun b=>u.ownBlock=some b,(q5w (F:=fun b=>u.ownBlock=some b) hba).step ht4 (fun b hb _=>hb),fun b hb=>(hI.own.lt b hb).1,TyF.own hI.own⟩
 ·rcases zng j i with h1|h1
  ·rw[y5y (by omega),show ta (ts++[t]) j=ta ts j by unfold ta;simp[List.getD,List.getElem?_append_left (show j<ts.length by omega)]];exact hst (hI.new j h1)
  ·obtain rfl:j=i:=by omega
   rw[show va (xs++[x]) j=x by have:=z96 xs [x] 0;rw[hxl] at this;exact this,show ta (ts++[t]) j=t by unfold ta;simp[List.getD,←htl]];exact hst hx
 ·rcases List.mem_append.1 hy with h1|h1
  ·exact hI.sz y h1
  ·rw[List.mem_singleton.1 h1];exact hz
theorem q5r {rec:RO→Int→Sp→Int→Option (RO×Tr)}{ks:List ByteArray}{ps:List Int}{s:Sp}{deep:Int}{k:Nat}(hk:k<ps.length)(o:RO):ldK rec ks ps s deep (ps.length-k) o=
  if k<ks.length∧hasS (lowS s ks k) (sa ks k)=false then none else
  match rec o (ia ps k) (z7e s ks k) (deep+1) with
  | none=>none
  | some (o1,tr)=>if tr.sz<126 then none else
   match ldK rec ks ps s deep (ps.length-(k+1)) o1 with
   | none=>none
   | some (o2,ts)=>some (o2,tr::ts):=by
 obtain⟨t,ht⟩:∃t,ps.length-k=t+1:=⟨ps.length-k-1,by omega⟩
 have e1:ps.length-(t+1)=k:=by omega
 have e2:ps.length-(k+1)=t:=by omega
 rw[ht,e2]
 conv=>lhs;unfold ldK
 rw[e1]
 rfl
section
variable {w w':World} {gr n c:Nat} {a b:Option Addr} {u:Nat→Bool} {d:Int}
theorem q6r {ks:List ByteArray}(h:TxS w b ks)(hg:Blk w gr RDG (rdv (.slice a n c) u d))(ht:Turn (fun i=>i=gr) w w'):TxS w' b ks:=fun h0=>by
 obtain⟨g,o,rfl,hc⟩:=h h0;refine⟨g,o,rfl,fun i hi=> ?_⟩;have hci:=hc i hi;have hne:¬g=gr:=fun e=>by subst e;exact hg.noStr _ _ hci
 rw[ht.cell (p:=⟨g,o+i,none⟩) (block_lt_of_cell hci) hne];exact hci
theorem Blk.intAt (hg:Blk w gr RDG (rdv (.slice a n c) u d)){j:Nat}{x:Int}(h:w.cell? ⟨gr,j,none⟩=some (.int .i64 x)):j=1025:=by
 rw[hg.cell] at h;have hs:j<1026:=by
  have:=(zag.1 h).1
  rwa [z4b] at this
 rcases Nat.eq_zero_or_pos j with h1|h1
 ·subst h1;rw[x1d] at h;cases h
 ·by_cases h2:j=1025
  ·exact h2
  ·obtain⟨k,rfl⟩:∃k,j=1+k:=⟨j-1,by omega⟩
   rw[x1e _ _ _ k (by omega)] at h;cases h
theorem q6s {ps:List Int}(h:PgS w b ps)(hg:Blk w gr RDG (rdv (.slice a n c) u d))(ht:Turn (fun i=>i=gr) w w')(h2:2≤ps.length):PgS w' b ps:=fun h0=>by
 obtain⟨g,o,rfl,hc⟩:=h h0;refine⟨g,o,rfl,fun i hi=> ?_⟩;have hci:=hc i hi;have hne:¬g=gr:=fun e=>by
  subst e;have a0:=hg.intAt (hc 0 (by omega));have a1:=hg.intAt (hc 1 (by omega));omega
 rw[ht.cell (p:=⟨g,o+i,none⟩) (block_lt_of_cell hci) hne];exact hci
end
def NdQ (w w':World)(gr:Nat)(pv:Value)(deep:Int)(lo hi:SB)(x:Option (RO×Tr))(e:Ending):Prop:=match x with
 | none=>e=.panicked CP∧Turn (fun i=>i=gr) w w'
 | some (o1,t)=>∃(v:NoV) (h:Nat),e=.returned v.v∧o1.d=deep+h∧NdS w' (fun b=>b<w.heap.size) h lo hi v t∧Blk w' gr RDG (rdv pv o1.u o1.d)∧Turn (fun i=>i=gr) w w'
def KsQ (w w':World)(gr:Nat)(pv:Value)(deep:Int)(lo hi:SB)(ks:List ByteArray)(N:Nat)(x:Option (RO×List Tr))(e:Ending):Prop:=match x with
 | none=>e=.panicked CP∧Turn (fun i=>i=gr) w w'
 | some (o1,ts)=>∃(u:Value) (xs:List NoV) (h:Nat),e=.returned u∧o1.d=deep+1+h∧KdI w w' u h lo hi ks xs ts N∧Blk w' gr RDG (rdv pv o1.u o1.d)∧Turn (fun i=>i=gr) w w'
theorem q5s {h:Nat}{lo hi:SB}{v:NoV}{t:Tr}(w:World)(hn:NdVT w h lo hi v t)(hs:t.sz≤100000):Calls Tryz.prog 140 #[v.v] w fun e w'=>e=.returned (.int .i64 (t.sz:Nat))∧Below w.heap.size w w':=by
 obtain⟨W,hW,hT,hV,hb⟩:=hn.nd;have HW:=zh hW;have HB:=zh hb;have Hc:=zh (z3x W (NdT.nd h hT) hs);clear hW hV hb hn hT;obtain⟨pg,ca,cn,cc,ka,kn,kc,pa,pn,pc⟩:=v;dsimp only[NoV.c,NoV.k,NoV.p,NoV.v] at*
 go_enter Tryz.func140,Tryz.ntmps140
 go_wp2_with fail;rw[HW.out];refine Hc.out.mono ?_;rintro e w' ⟨rfl,hb2⟩;have Hb2:=zh (HB.out.trans (hb2.mono HB.out.size));clear hb2;go_wp2;go_ret;exact⟨rfl,Hb2.out⟩
theorem KdI.zero {w W:World}{u:Value}{h:Nat}{lo hi:SB}{ks:List ByteArray}{xs:List NoV}{ts:List Tr}(hI:KdI w W u h lo hi ks xs ts 0)(h':Nat):KdI w W u h' lo hi ks xs ts 0:=⟨hI.own,hI.xl,hI.tl,fun j hj=>by omega,hI.sz⟩
theorem KdI.lower {w w1 W:World}{u:Value}{h:Nat}{lo hi:SB}{ks:List ByteArray}{xs:List NoV}{ts:List Tr}{i:Nat}(hI:KdI w1 W u h lo hi ks xs ts i)(hw:w.heap.size≤w1.heap.size):KdI w W u h lo hi ks xs ts i:=
 ⟨z4z hI.own hw,hI.xl,hI.tl,fun j hj=>(hI.new j hj).ext (zbr _ _) (fun _ hb _=>hb.imp_left (fun h=>Nat.lt_of_lt_of_le h hw)),hI.sz⟩
def y55 (rec:RO→Int→Sp→Int→Option (RO×Tr))(ks:List ByteArray)(ps:List Int)(s:Sp)(deep:Int)(R:Option (RO×List Tr))(k:Nat)(y:RO)(ts:List Tr):Prop:=R=(ldK rec ks ps s deep (ps.length-k) y).map (fun z=>(z.1,ts++z.2))
set_option maxRecDepth 100000 in
set_option maxHeartbeats 4000000 in
theorem x6m (gr:Nat)(a:Option Addr)(n c:Nat)(P:List (List Nat))(f:Nat)(o:RO)(ka pa:Option Addr)(kc pc:Nat)(ks:List ByteArray)(ps:List Int)(K N:Nat)(s:Sp)(deep:Int)(lo hi:SB)(w:World)
  (hK:ks.length=K) (hN:ps.length=N) (hk:TxS w ka ks) (hp:PgS w pa ps) (hkl:K+1=N) (h2:2≤N) (h9:N≤504) (hs:SpB s lo hi) (hd1:1≤deep) (hd9:deep≤100000) (h0:0≤o.d) (hL:LdW w gr a P) (hB:Blk w gr RDG (rdv (.slice a n c) o.u o.d)) (hf:z1f o.u n≤f)
  (ih:∀(o:RO) (x:Int) (s:Sp) (lo hi:SB) (w:World),SpB s lo hi→0≤o.d→LdW w gr a P→Blk w gr RDG (rdv (.slice a n c) o.u o.d)→z1f o.u n≤f→Calls Tryz.prog 65 #[.pointer (some ⟨gr,0,none⟩),.int .i64 x,s.v,.int .i64 (deep+1)] w fun e w'=>NdQ w w' gr (.slice a n c) (deep+1) lo hi (ldN P f o x s (deep+1)) e):
  Calls Tryz.prog 99 #[.pointer (some ⟨gr,0,none⟩),.agg #[.slice ka K kc,.slice pa N pc],s.v,.int .i64 deep] w fun e w'=>KsQ w w' gr (.slice a n c) deep lo hi ks N (ldK (ldN P f) ks ps s deep N o) e:=by
 obtain⟨R,hR⟩:∃R,ldK (ldN P f) ks ps s deep N o=R:=⟨_,rfl⟩
 rw[hR];have hb1:Below w.heap.size w (w.alloc (.cells #[.slice ka K kc,.slice pa N pc] FT)):=(zbr _ _).alloc (zlr _) _;have hf1:=z0h w FT #[.slice ka K kc,.slice pa N pc];have hb2:Below (w.heap.size+1) (w.alloc (.cells #[.slice ka K kc,.slice pa N pc] FT)) ((w.alloc (.cells #[.slice ka K kc,.slice pa N pc] FT)).alloc (.cells #[.string s.lo,.string s.hi,.bool s.op] SPT)):=(zbr _ _).alloc (by simp) _;have hs2:=z0h (w.alloc (.cells #[.slice ka K kc,.slice pa N pc] FT)) SPT #[.string s.lo,.string s.hi,.bool s.op];have hz2:((w.alloc (.cells #[.slice ka K kc,.slice pa N pc] FT)).alloc (.cells #[.string s.lo,.string s.hi,.bool s.op] SPT)).heap.size=w.heap.size+2:=by simp
 obtain⟨W,hW⟩:∃W,(w.alloc (.cells #[.slice ka K kc,.slice pa N pc] FT)).alloc (.cells #[.string s.lo,.string s.hi,.bool s.op] SPT)=W:=⟨_,rfl⟩
 rw[show(w.alloc (.cells #[.slice ka K kc,.slice pa N pc] FT)).heap.size=w.heap.size+1 by simp] at hs2;rw[hW] at hb2 hs2 hz2;have hbW:Below w.heap.size w W:=hb1.trans (hb2.mono (Nat.le_succ _));have hgw:gr<w.heap.size:=hB.lt;have HFk:Hid (Blk W w.heap.size FT #[.slice ka K kc,.slice pa N pc]):=Blk.below (w:=w.alloc (.cells #[.slice ka K kc,.slice pa N pc] FT)) hf1 hb2 (Nat.lt_succ_self _);have HS:=zh (show Blk W (w.heap.size+1) SPT #[.string s.lo,.string s.hi,.bool s.op] from hs2);have HBW:=zh hbW;have HZ:=zh hz2;have HW:=zh hW;have HB:=zh (hB.ext hbW);have HB0:=zh hB;have HL:=zh hL;have HR:=zh hR;have HTx:=zh hk;have HPg:=zh hp;have HSp:=zh hs;have HF:=zh hf;have HI:=zh ih;have Hd0:=zh h0;have HM0:=zh (fun w=>z4d w);have HM1:=zh (fun w=>z4c w);have Hhas:=zh (fun s k w=>x11 s k w);have Hsz:=zh (fun(h:Nat) (lo hi:SB) (v:NoV) (t:Tr) (w:World) (hn:NdVT w h lo hi v t) (hs:t.sz≤100000)=>q5s w hn hs);have Hen:=zh (fun p w=>z48 p w);have q0:W.cell? ⟨w.heap.size,0,none⟩=some (.slice ka K kc):=by rw[HFk.out.cell];rfl
 have q1:W.cell? ⟨w.heap.size,1,none⟩=some (.slice pa N pc):=by rw[HFk.out.cell];rfl
 rw[←hW] at q0 q1;have HKN:Hid (K+1=N∧2≤N∧N≤504):=⟨hkl,h2,h9⟩
 have HNl:=zh hN;have HKl:=zh hK;have hn5:N≤504:=h9;clear hk hp hkl h2 h9 hs h0 hL hB hf ih hb1 hf1 hb2 hs2 hz2 hbW hR hW;clear hN hK;obtain⟨slo,shi,sop⟩:=s;dsimp only[Sp.v] at*
 go_enter Tryz.func99,Tryz.ntmps99
 go_wp2_with fail;rw[HW.out];have HK0:∀h:Nat,KdI W W nilS h lo hi ks [] [] 0:=fun h=>⟨World.ownsRow_nil _ _ _ _,rfl,rfl,fun j hj=>by omega,fun t ht=>by cases ht⟩
 have HR0:=zh (show y55 (ldN P f) ks ps ⟨slo,shi,sop⟩ deep R 0 o [] by unfold y55;rw[Nat.sub_zero,HNl.out,HR.out];cases R<;>simp)
 go_loopw [9,10,11,12,13,14,18] (fun uv _ _ _ _ _ i wr=>∃(k:Nat) (y:RO) (u0:Value) (xs:List NoV) (ts:List Tr) (h:Nat),u0=uv∧i=.int .i64 k∧k≤N∧Hid (y55 (ldN P f) ks ps ⟨slo,shi,sop⟩ deep R k y ts)∧Hid (KdI W wr u0 h lo hi ks xs ts k)∧Hid (0<k→y.d=deep+1+h)∧Hid (0≤y.d)∧Hid (z1f y.u n≤f)∧Hid (Blk wr gr RDG (rdv (.slice a n c) y.u y.d))∧Hid (Blk wr w.heap.size FT #[.slice ka K kc,.slice pa N pc])∧(∃LO,Hid (Blk wr (w.heap.size+1) SPT #[.string LO,.string shi,.bool sop])∧Hid (k≤K→LO=(lowS ⟨slo,shi,sop⟩ ks k).lo))∧Hid (W.heap.size≤wr.heap.size)∧Hid (Turn (fun i=>i=gr) w wr)) (fun _ _ _ _ _ _ i _=>N-(intOf i).toNat)
 case atStart=>exact⟨0,o,_,[],[],0,rfl,rfl,by omega,HR0.out,HK0 0,fun h=>by omega,Hd0.out,HF.out,HB.out,HFk.out,⟨slo,HS.out,fun _=>rfl⟩,zlr _,q5w HBW.out⟩
 case round=>
  obtain⟨k,y,u0,xs,ts,h,rfl,rfl,hk,HRest,HK,Hyd,Hy0,HFy,HBy,HFt,⟨LO,HSy,HLO⟩,HWr,HTy⟩:=hrel
  by_cases hlt:k<N
  ·have i1:(k:Int)<(N:Int):=by omega
   have hkl:k<ps.length:=by rw[HNl.out];exact hlt
   have hpg:=q6s HPg.out HB0.out HTy.out (by rw[HNl.out];exact HKN.out.2.1);obtain⟨g0,o0,rfl,hcell⟩:=hpg (by omega);have hcy:=hcell k hkl;have hkp:k≤K:=by have:=HKN.out.1;omega
   have hlw:lowS ⟨slo,shi,sop⟩ ks k=⟨LO,shi,sop⟩:=by rw[HLO.out hkp];exact rfl
   have hstep:=q5r (rec:=ldN P f) (ks:=ks) (s:=⟨slo,shi,sop⟩) (deep:=deep) hkl y;have s0:wr.cell? ⟨w.heap.size+1,0,none⟩=some (.string LO):=by rw[HSy.out.cell];rfl
   have s1:wr.cell? ⟨w.heap.size+1,1,none⟩=some (.string shi):=by rw[HSy.out.cell];rfl
   have s2:wr.cell? ⟨w.heap.size+1,2,none⟩=some (.bool sop):=by rw[HSy.out.cell];rfl
   obtain⟨gk,okk,rfl,hkc⟩:=(q6r HTx.out HB0.out HTy.out) (by rw[HKl.out];have:=HKN.out;omega)
   obtain⟨W1,hW1⟩:∃W1,wr.alloc (.cells #[.string LO,.string shi,.bool sop] SPT)=W1:=⟨_,rfl⟩
   have hb1:Below wr.heap.size wr W1:=by rw[←hW1];exact(zbr _ _).alloc (zlr _) _
   have hc1:Blk W1 wr.heap.size SPT #[.string LO,.string shi,.bool sop]:=by rw[←hW1];exact z0h wr SPT _
   have HF1:=zh (HFt.out.ext hb1);have HS1:=zh (HSy.out.ext hb1);have f0:W1.cell? ⟨w.heap.size,0,none⟩=some (.slice (some ⟨gk,okk,none⟩) K kc):=by rw[HF1.out.cell];rfl
   have t0:W1.cell? ⟨w.heap.size+1,0,none⟩=some (.string LO):=by rw[HS1.out.cell];rfl
   have t1:W1.cell? ⟨w.heap.size+1,1,none⟩=some (.string shi):=by rw[HS1.out.cell];rfl
   have t2:W1.cell? ⟨w.heap.size+1,2,none⟩=some (.bool sop):=by rw[HS1.out.cell];rfl
   rw[←hW1] at f0 t0 t1 t2;have HW1:=zh hW1;have HC1:=zh hc1;have HBb:=zh hb1;clear hb1 hc1 hW1;have Hstep:=zh hstep;have HKc:=zh (fun(hkK:k<K)=>(TxS.below (w:=wr) (a:=some ⟨gk,okk,none⟩) (ks:=ks) (fun _=>⟨gk,okk,rfl,hkc⟩) HBb.out (zlr _)));have HSPb:=zh (SpB.part HSp.out ks k);have hw2:w.heap.size+2≤wr.heap.size:=by rw[←HZ.out];exact HWr.out
   clear hcell hpg hkc hstep;have Hlw:=zh hlw;clear hlw
   go_upto_if 28 with fail
   rw[HW1.out]
   go_cut [] (fun wx=>Hid (Blk wx wr.heap.size SPT #[.string (z7e ⟨slo,shi,sop⟩ ks k).lo,.string (z7e ⟨slo,shi,sop⟩ ks k).hi,.bool (z7e ⟨slo,shi,sop⟩ ks k).op])∧(∃LO2,Hid (Blk wx (w.heap.size+1) SPT #[.string LO2,.string shi,.bool sop])∧Hid (k+1≤K→LO2=(lowS ⟨slo,shi,sop⟩ ks (k+1)).lo))∧Hid (Turn (fun i=>i=w.heap.size+1) wr wx)∧Hid (¬(k<ks.length∧hasS (lowS ⟨slo,shi,sop⟩ ks k) (sa ks k)=false)))
   case first=>
    by_cases hkK:k<K
    ·have e1:decide (k<K)=true:=zdt hkK;have hkc:W1.cell? ⟨gk,okk+k,none⟩=some (.string (sa ks k)):=by
      obtain⟨g,o,e,h⟩:=HKc.out hkK (by rw[HKl.out];omega)
      cases e
      exact h k (by rw[HKl.out];exact hkK)
     have hpa:z7e ⟨slo,shi,sop⟩ ks k=⟨LO,sa ks k,false⟩:=by
      have:LO=(lowS ⟨slo,shi,sop⟩ ks k).lo:=by rw[Hlw.out]
      rw[this];unfold z7e;rw[if_pos (show k<ks.length by rw[HKl.out];exact hkK),if_pos (show k<ks.length by rw[HKl.out];exact hkK)];exact rfl
     have hnx:(lowS ⟨slo,shi,sop⟩ ks (k+1)).lo=sa ks k:=by unfold lowS;rw[if_pos (Nat.succ_pos k)];exact rfl
     obtain⟨KEY,hKEY⟩:∃x,sa ks k=x:=⟨_,rfl⟩
     rw[hKEY] at hkc hpa hnx;have HKEY:=zh hKEY;have Hpa:=zh hpa;have Hnx:=zh hnx;have Hh:=Hhas.out ⟨LO,shi,sop⟩ KEY W1;obtain⟨D,hD⟩:∃D,hasS ⟨LO,shi,sop⟩ KEY=D:=⟨_,rfl⟩
     rw[hD] at Hh;have HDd:=zh hD;have Hhh:=zh Hh;have HkK:=zh hkK;rw[HW1.out] at f0 t0 t1 t2;clear hD Hh hKEY hpa hnx hkK;dsimp only[Sp.v] at Hhh;go_wp2_with fail;refine Hhh.out.mono ?_;rintro e w5 ⟨rfl,hb5⟩;have HC5:=HC1.out.ext hb5;have HS5:=HS1.out.ext hb5;clear f0;have hT5:Turn (fun i=>i=w.heap.size+1) wr w5:=(q5w HBb.out).step (G:=fun _=>False) (q5w hb5) (fun _ hf _=>hf.elim)
     cases D with
     | false=>
      have HN1:Hid (R=none):=by
       rw[HRest.out,Hstep.out,if_pos ⟨by rw[HKl.out];exact HkK.out,by rw[Hlw.out,HKEY.out];exact HDd.out⟩];exact rfl
      have HT5:Hid (Turn (fun i=>i=gr) w w5):=HTy.out.step hT5 (fun i hi hl=>by omega);clear hb5 s0 s1 s2 t0 t1 t2 hkc HC5 HS5 hT5;go_wp2_with fail;refine(HM0.out w5).mono ?_;rintro e w6 ⟨rfl,rfl⟩;go_wp2;rw[HN1.out];exact⟨rfl,rfl,HT5.out⟩
     | true=>
      have x0:w5.cell? ⟨w.heap.size+1,0,none⟩=some (.string LO):=by rw[HS5.cell];rfl
      have p0:w5.cell? ⟨wr.heap.size,0,none⟩=some (.string LO):=by rw[HC5.cell];rfl
      have p1:w5.cell? ⟨wr.heap.size,1,none⟩=some (.string shi):=by rw[HC5.cell];rfl
      have p2:w5.cell? ⟨wr.heap.size,2,none⟩=some (.bool sop):=by rw[HC5.cell];rfl
      have z0:=HC5.fz 0;have z1:=HC5.fz 1;have z2:=HC5.fz 2;have z3:=HS5.fz 0;have HC6:=zh HC5;have HS6:=zh HS5;have HT6:=zh hT5;clear hb5 s0 s1 s2 t0 t1 t2 hkc HC5 HS5 hT5;go_wp2_with fail;refine(HM1.out w5).mono ?_;rintro e w6 ⟨rfl,rfl⟩;go_wp2;go_meet;refine⟨?_,⟨KEY,?_,fun _=>Hnx.out.symm⟩,?_,?_⟩
      ·rw[Hpa.out];have h1:=((HC6.out.set 0 (.string LO)).set 1 (.string KEY)).set 2 (.bool false);exact Blk.turn h1 ((Turn.refl (fun i=>i=w.heap.size+1) _).setCell _ (fun _=>rfl)) (fun e=>by omega)
      ·have h1:Blk (((w5.setCell ⟨wr.heap.size,0,none⟩ (.string LO)).setCell ⟨wr.heap.size,1,none⟩ (.string KEY)).setCell ⟨wr.heap.size,2,none⟩ (.bool false)) (w.heap.size+1) SPT #[.string LO,.string shi,.bool sop]:=
        HS6.out.turn ((((Turn.refl (fun i=>i=wr.heap.size) _).setCell _ (fun _=>rfl)).setCell _ (fun _=>rfl)).setCell _ (fun _=>rfl)) (fun e=>by omega)
       exact h1.set 0 (.string KEY)
      ·exact(((HT6.out.setCell _ (fun h=>absurd h (Nat.lt_irrefl _))).setCell _ (fun h=>absurd h (Nat.lt_irrefl _))).setCell _ (fun h=>absurd h (Nat.lt_irrefl _))).setCell _ (fun _=>rfl)
      ·rintro⟨_,h⟩;rw[Hlw.out,HKEY.out,HDd.out] at h
       cases h
    ·have e1:decide (k<K)=false:=zdf hkK;have HkK:=zh hkK;clear hkK;go_wp2;go_meet;have hKe:¬k<ks.length:=by rw[HKl.out];exact HkK.out
     have hpa:z7e ⟨slo,shi,sop⟩ ks k=⟨LO,shi,sop⟩:=by
      have:LO=(lowS ⟨slo,shi,sop⟩ ks k).lo:=by rw[Hlw.out]
      rw[this];unfold z7e;rw[if_neg hKe,if_neg hKe];exact rfl
     refine⟨by rw[hpa];exact HC1.out,⟨LO,HS1.out,fun h=>by have:=HkK.out;omega⟩,q5w HBb.out,fun h=>hKe h.1⟩
   case rest=>
    obtain⟨HCx,⟨LO2,HSx,HLO2⟩,HTx1,Hno⟩:=hcut;have HTwx:Hid (Turn (fun i=>i=gr) w wc):=HTy.out.step HTx1.out (fun i hi hl=>by omega);have HBx:=zh (HBy.out.turn HTx1.out (fun e=>by omega));have HFx:=zh (HFt.out.turn HTx1.out (fun e=>by omega));have HKx:=zh (HK.out.var HTx1.out HSy.out (by decide) (by decide));have HLx:=zh (HL.out.turn HTwx.out (fun i hi=>by omega));have HWx:Hid (W.heap.size≤wc.heap.size):=znt HWr.out HTx1.out.size;obtain⟨Q,hQ⟩:∃Q,z7e ⟨slo,shi,sop⟩ ks k=Q:=⟨_,rfl⟩
    rw[hQ] at HCx HSPb;have hst:=Hstep.out;rw[if_neg Hno.out,hQ] at hst;have hR2:=HRest.out;unfold y55 at hR2;rw[hst] at hR2;obtain⟨pl,ph,po⟩:=Q;dsimp only at HCx;have c0:wc.cell? ⟨wr.heap.size,0,none⟩=some (.string pl):=by rw[HCx.out.cell];rfl
    have c1:wc.cell? ⟨wr.heap.size,1,none⟩=some (.string ph):=by rw[HCx.out.cell];rfl
    have c2:wc.cell? ⟨wr.heap.size,2,none⟩=some (.bool po):=by rw[HCx.out.cell];rfl
    have Hnd:=zh (HI.out y (ia ps k) ⟨pl,ph,po⟩ (lob lo ks k) (hib hi ks k) wc HSPb.out Hy0.out HLx.out HBx.out HFy.out);have Hfa:=zh (fun o1 t h=>z6u P f y (ia ps k) ⟨pl,ph,po⟩ (deep+1) o1 t Hy0.out (by omega) h);dsimp only at Hnd;clear HK HBy HFt HSy HTy HWr HTx1 HRest hst hQ Hno HW1 HC1 HF1 HS1 HBb s0 s1 s2 t0 t1 t2 f0 hcy HL HCx;go_wp2_with fail;refine Hnd.out.mono ?_;intro e w7 hq
    cases hle:ldN P f y (ia ps k) ⟨pl,ph,po⟩ (deep+1) with
    | none=>
     rw[hle] at hq hR2;obtain⟨rfl,ht⟩:=hq;have HN1:Hid (R=none):=by rw[hR2];exact rfl
     have HT7:=zh (HTwx.out.trans ht);clear ht hR2 c0 c1 c2 hle;go_wp2;rw[HN1.out];exact⟨rfl,rfl,HT7.out⟩
    | some z=>
     obtain⟨o1,t⟩:=z;rw[hle] at hq hR2;obtain⟨v,h1,rfl,hd1',hnd7,hb7,ht7⟩:=hq;obtain⟨h2,hF,_⟩:=Hfa.out o1 t hle;have hz5:=hF.sz;have hk0:k=0∨h1=h:=by
      rcases Nat.eq_zero_or_pos k with h3|h3
      ·exact .inl h3
      ·have h4:=Hyd.out h3;have h5:=hF.d0
       right;omega
     have hK1:KdI W wc u0 h1 lo hi ks xs ts k:=by
      rcases hk0 with h3|h3
      ·have h4:=HKx.out;clear hR2;subst h3;exact h4.zero h1
      ·subst h3;exact HKx.out
     have hK7:=hK1.var ht7 HBx.out (by decide) (by decide);have hown:=fun i hi=>(hK1.own.lt i hi).2
     obtain⟨W8,hW8⟩:∃W8,w7.alloc (.cells #[.int .i64 (v.pg:Nat),v.c,v.k,v.p] VT)=W8:=⟨_,rfl⟩
     have hb8:Below w7.heap.size w7 W8:=by rw[←hW8];exact(zbr _ _).alloc (zlr _) _
     have hc8:Blk W8 w7.heap.size VT #[.int .i64 (v.pg:Nat),v.c,v.k,v.p]:=by rw[←hW8];exact z0h w7 VT _
     have hn8:NdS W8 (fun b=>b<W.heap.size∨u0.ownBlock=some b) h1 (lob lo ks k) (hib hi ks k) v t:=hnd7.ext hb8 (fun i hi _=>by
      rcases hi with hi|hi
      ·have:=HWx.out;omega
      ·exact hown i hi)
     have hK8:=hK7.ext hb8;have hsz:=Hsz.out h1 _ _ v t W8 hn8.now (by omega);have HT8:Hid (Turn (fun i=>i=gr) w W8):=(HTwx.out.trans ht7).step (G:=fun _=>False) (q5w hb8) (fun _ hf _=>hf.elim);have HB8:=zh (hb7.ext hb8);have HFt8:=zh ((HFx.out.turn ht7 (fun e=>by omega)).ext hb8);have HS8:=zh ((HSx.out.turn ht7 (fun e=>by omega)).ext hb8);have HW8z:Hid (W.heap.size≤W8.heap.size):=znt HWx.out (znt ht7.size hb8.size);have HF8:Hid (z1f o1.u n≤f):=Nat.le_trans (hF.op.free n) HFy.out;have HW8:=zh hW8;have HC8:=zh hc8;have HN8:=zh hn8;have HK8:=zh hK8;have Hsz8:=zh hsz;have HRm:=zh hR2;have Hd8:=zh hd1';have d0:W8.cell? ⟨w7.heap.size,0,none⟩=some (.int .i64 (v.pg:Nat)):=by rw[hc8.cell];rfl
     have d1:W8.cell? ⟨w7.heap.size,1,none⟩=some v.c:=by rw[hc8.cell];rfl
     have d2:W8.cell? ⟨w7.heap.size,2,none⟩=some v.k:=by rw[hc8.cell];rfl
     have d3:W8.cell? ⟨w7.heap.size,3,none⟩=some v.p:=by rw[hc8.cell];rfl
     rw[←hW8] at d0 d1 d2 d3;clear hk0 hK1 hK7 hown hW8 hb8 hc8 hn8 hK8 hsz hR2 hd1' hnd7 hb7 ht7 hF hle HTwx HBx HFx HKx HLx HWx HSx HSPb Hnd Hfa HFy Hyd Hy0 c0 c1 c2;obtain⟨vg,va1,va2,va3,vb1,vb2,vb3,vc1,vc2,vc3⟩:=v;dsimp only[NoV.c,NoV.k,NoV.p,NoV.v] at*;go_wp2_with fail;rw[HW8.out];refine Hsz8.out.mono ?_;rintro e w9 ⟨rfl,hb9⟩;have hc9:=HC8.out.ext hb9;have hn9':=HN8.out.ext hb9 (Q1:=fun b=>b<W.heap.size∨u0.ownBlock=some b) (fun i hi _=>hi);have hK9:=HK8.out.ext hb9;have HT9:=zh (HT8.out.step (G:=fun _=>False) (q5w hb9) (fun _ hf _=>hf.elim));have HB9:=zh (HB8.out.ext hb9);have HF9:=zh (HFt8.out.ext hb9);have HS9:=zh (HS8.out.ext hb9);have HW9:Hid (W.heap.size≤w9.heap.size):=znt HW8z.out hb9.size;have He:=Hen.out (t.sz:Nat) w9
     by_cases h126:126≤t.sz
     ·rw[zdt (show(126:Int)≤(t.sz:Nat) by omega)] at He;obtain⟨v10,w10,hrun,hK10,F,hF1,hF2,hF3⟩:=hK9.app HW9.out (by omega) hn9' ⟨h126,hz5⟩;have HR10:Hid (y55 (ldN P f) ks ps ⟨slo,shi,sop⟩ deep R (k+1) o1 (ts++[t])):=by
       show y55 _ _ _ _ _ _ _ _ _;unfold y55;have h3:=HRm.out;rw[if_neg (by omega)] at h3;rw[h3]
       cases ldK (ldN P f) ks ps ⟨slo,shi,sop⟩ deep (ps.length-(k+1)) o1 with
       | none=>rfl
       | some z=>simp
      have HB10:Hid (Blk w10 gr RDG (rdv (.slice a n c) o1.u o1.d)):=HB9.out.turn hF1 (fun hg=>hF3.not HB9.out (by decide) hg);have HF10:Hid (Blk w10 w.heap.size FT #[.slice (some ⟨gk,okk,none⟩) K kc,.slice (some ⟨g0,o0,none⟩) N pc]):=HF9.out.turn hF1 (fun hg=>hF3.not HF9.out (by decide) hg);have HS10:Hid (Blk w10 (w.heap.size+1) SPT #[.string LO2,.string shi,.bool sop]):=HS9.out.turn hF1 (fun hg=>hF3.not HS9.out (by decide) hg);have HT10:Hid (Turn (fun i=>i=gr) w w10):=HT9.out.step hF1 (fun i hi hl=>by have:=hF2 i hi;have:=HZ.out;omega);have HW10:Hid (W.heap.size≤w10.heap.size):=znt HW9.out hF1.size;have HK10:=zh hK10;have d0:w9.cell? ⟨w7.heap.size,0,none⟩=some (.int .i64 (vg:Nat)):=by rw[hc9.cell];rfl
      have d1:w9.cell? ⟨w7.heap.size,1,none⟩=some (.slice va1 va2 va3):=by rw[hc9.cell];rfl
      have d2:w9.cell? ⟨w7.heap.size,2,none⟩=some (.slice vb1 vb2 vb3):=by rw[hc9.cell];rfl
      have d3:w9.cell? ⟨w7.heap.size,3,none⟩=some (.slice vc1 vc2 vc3):=by rw[hc9.cell];rfl
      have Hen9:=zh He;clear hb9 hc9 hn9' hK9 He hK10 hF1 hF2 hF3 HK8 HN8 HC8 HW8 Hsz8;go_wp2_with fail;refine Hen9.out.mono ?_;rintro e w11 ⟨rfl,rfl⟩;go_wp2_with fail;refine(HM1.out w9).mono ?_;rintro e w12 ⟨rfl,rfl⟩
      go_wp2_with (at_builtin;refine Lib.wpList_append_run _ rfl (.tmp 54) (.tmp 56) _ _ rfl _ _ (by rfl) (by rfl) _ _ hrun ?_)
      go_roundw
      case rel=>exact⟨k+1,o1,v10,_,ts++[t],h1,rfl,by go_num,by omega,HR10,HK10,fun _=>Hd8.out,(by have:=Hd8.out;show 0≤o1.d;omega),HF8,HB10,HF10,⟨LO2,HS10,HLO2⟩,HW10,HT10⟩
      case measure=>simp[intOf];omega
     ·rw[zdf (show¬(126:Int)≤(t.sz:Nat) by omega)] at He;have HN1:Hid (R=none):=by
       have h3:=HRm.out;rw[if_pos (by omega)] at h3;rw[h3];exact rfl
      have Hen9:=zh He;clear hb9 hc9 hn9' hK9 He HK8 HN8 HC8 HW8 Hsz8;go_wp2_with fail;refine Hen9.out.mono ?_;rintro e w11 ⟨rfl,rfl⟩;go_wp2_with fail;refine(HM0.out w9).mono ?_;rintro e w12 ⟨rfl,rfl⟩;go_wp2;rw[HN1.out];exact⟨rfl,rfl,HT9.out⟩
  ·obtain rfl:k=N:=by omega
   have HN1:Hid (R=some (y,ts)):=by
    have h3:=HRest.out;unfold y55 at h3;rw[HNl.out,Nat.sub_self] at h3;rw[h3];unfold ldK;simp;exact trivial
   go_wp2;go_ret;rw[HN1.out];exact⟨_,xs,h,rfl,Hyd.out (by have:=HKN.out;omega),HK.out.lower (by have:=HZ.out;omega),HBy.out,HTy.out⟩
end Go.Proofs.YtdnfhjfbanhhcaaGreatDoor
