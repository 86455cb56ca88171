/-
  Steps.
-/
import Derived.Test.YtdnfhjfbanhhcaaGreatDoorQLBk27
import Derived.Laws.MakeOwn
namespace Go.Proofs.YtdnfhjfbanhhcaaGreatDoor
open Go Go.RowKit
abbrev ITY:TypeId:=3
abbrev STY:TypeId:=9
abbrev zF:Value:=.slice none 0 0
theorem x84 (w:World)(B:Nat)(x:Int)(h:B≤w.heap.size):(w.alloc (.cells #[.int .i64 x] ITY)).ownsRow B ITY 1 (.slice (some ⟨w.heap.size,0,none⟩) 1 1) 1 (iv [x]):=by
 refine⟨rfl,.inr ⟨w.heap.size,1,#[.int .i64 x],rfl,h,?_,zlr _,by unfold maxLen;omega,?_⟩⟩
 ·show(w.heap.push _)[w.heap.size]? =_;rw[Array.getElem?_push_size]
 ·exact⟨rfl,rfl⟩
theorem x85 (w:World)(b:Nat)(u' v':Value)(a c:Option Addr)(ks:List ByteArray)(is:List Int)(u v:Value)(T:TypeId)(h:PB w b T u v)(hx:TxS w a ks)(hp:PgS w c is)(hu:u=zF)(hv:v=zF):
  TxS ((w.setCell ⟨b,0,none⟩ u').setCell ⟨b,1,none⟩ v') a ks∧PgS ((w.setCell ⟨b,0,none⟩ u').setCell ⟨b,1,none⟩ v') c is:=by
 subst hu hv;have t:=z9m w b u' v';have no:∀(j:Nat) (y:Value),w.cell? ⟨b,j,none⟩=some y→y=zF:=fun j y hj=>by
  have h':w.heap[b]? =_:=h;simp only[World.cell?,h'] at hj
  rcases j with _|_|j<;>simp at hj
  ·exact hj.symm
  ·exact hj.symm
 refine⟨fun h0=> ?_,fun h0=> ?_⟩
 ·obtain⟨g,o,rfl,hc⟩:=hx h0;refine⟨g,o,rfl,fun i hi=> ?_⟩;have hci:=hc i hi;have hg:¬g=b:=fun e=>by subst e;cases no _ _ hci
  rw[t.cell (p:=⟨g,o+i,none⟩) (block_lt_of_cell hci) hg];exact hci
 ·obtain⟨g,o,rfl,hc⟩:=hp h0;refine⟨g,o,rfl,fun i hi=> ?_⟩;have hci:=hc i hi;have hg:¬g=b:=fun e=>by subst e;cases no _ _ hci
  rw[t.cell (p:=⟨g,o+i,none⟩) (block_lt_of_cell hci) hg];exact hci
structure DecI (w w1 wr:World) (l:List Nat) (b p:Nat) (ks:List ByteArray) (is:List Int) (S:RS) (u v:Value):Prop where
 st:StF l ks is S
 rd:Rb wr b w1.heap.size S
 fk:PB wr p FT u v
 ku:wr.ownsRow w1.heap.size STY 1 u ks.length (sv ks)
 kv:wr.ownsRow w1.heap.size ITY 1 v is.length (iv is)
 res:PB wr w.heap.size FT zF zF
 size:w1.heap.size≤wr.heap.size
 below:Below w.heap.size w wr
theorem DecI.next {w w1 wr w3 w4 w5:World}{l:List Nat}{b p:Nat}{ks:List ByteArray}{is:List Int}{S S3:RS}{u v u':Value}{y:ByteArray}(h:DecI w w1 wr l b p ks is S u v)
  (hb:b<w1.heap.size) (hp:w1.heap.size≤p) (hw:w.heap.size<w1.heap.size) (hwb:w.heap.size≤b) (hne:b≠w.heap.size)
  (ht:Turn (fun i=>i=b) wr w3) (hr:Rb w3 b w1.heap.size S3) (h4:Below w3.heap.size w3 w4) (hg:w4.grownBy w5 u.ownBlock) (ho:w5.ownsRow w1.heap.size STY 1 u' (ks++[y]).length (sv (ks++[y]))):
  Rb (w5.setCell ⟨p,0,none⟩ u') b w1.heap.size S3∧PB (w5.setCell ⟨p,0,none⟩ u') p FT u' v∧(w5.setCell ⟨p,0,none⟩ u').ownsRow w1.heap.size STY 1 u' (ks++[y]).length (sv (ks++[y]))∧
  (w5.setCell ⟨p,0,none⟩ u').ownsRow w1.heap.size ITY 1 v is.length (iv is)∧PB (w5.setCell ⟨p,0,none⟩ u') w.heap.size FT zF zF∧w1.heap.size≤(w5.setCell ⟨p,0,none⟩ u').heap.size∧Below w.heap.size w (w5.setCell ⟨p,0,none⟩ u')∧
  PB w5 p FT u v:=by
 have pb:p≠b:=by omega
 have k3:PB w3 p FT u v:=h.fk.turn ht pb;have k4:=k3.ext h4;have t5:=z3y hg;have u3:w3.ownsRow w1.heap.size STY 1 u ks.length (sv ks):=z1q h.ku ht (fun i hi e=>by have:=z3f h.ku i hi;omega);have u4:=z0p u3 h4 (zlr _);have k5:PB w5 p FT u v:=k4.turn t5 (fun e=>z24 u4 k4 (by decide) p e rfl);have v3:w3.ownsRow w1.heap.size ITY 1 v is.length (iv is):=z1q h.kv ht (fun i hi e=>by have:=z3f h.kv i hi;omega);have v4:=z0p v3 h4 (zlr _);have v5:w5.ownsRow w1.heap.size ITY 1 v is.length (iv is):=z1q v4 t5 (fun i hi e=>y5n u4 v4 (by decide) i e hi);have ts:=z1e w5 p 0 u';have r4:=hr.below h4;have r5:Rb w5 b w1.heap.size S3:=r4.overF t5 (fun i hi=>⟨z3f u4 i hi,by have:=z3f u4 i hi;omega⟩);have z3:PB w3 w.heap.size FT zF zF:=h.res.turn ht (fun e=>hne e.symm);have z4:=z3.ext h4;have z5:PB w5 w.heap.size FT zF zF:=z4.turn t5 (fun e=>by have:=z3f u4 _ e;omega);have s5:w1.heap.size≤w5.heap.size:=znt h.size (znt ht.size (znt h4.size hg.size));have b3:Below w.heap.size w w3:=h.below.trans (ht.below h.below.size (fun i e=>by subst e;exact hwb));have b4:Below w.heap.size w w4:=b3.trans (h4.mono b3.size);have b5:Below w.heap.size w w5:=b4.grown hg b4.size (fun i hi=>by have:=z3f u4 i hi;omega);refine⟨r5.overF ts (fun i hi=>by subst hi;exact⟨hp,pb⟩),k5.set0 u',z1q ho ts (fun i hi e=> ?_),z1q v5 ts (fun i hi e=> ?_),z5.turn ts (fun e=>by omega),?_,b5.setCell (p:=⟨p,0,none⟩) (by show w.heap.size≤p;omega) u',k5⟩
 ·exact z24 ho k5 (by decide) i hi e
 ·exact z24 v5 k5 (by decide) i hi e
 ·rw[World.size_setCell];exact s5
theorem q6e {w w1 wr w3 w4 w5:World}{l:List Nat}{b p:Nat}{ks':List ByteArray}{is:List Int}{S1 S3:RS}{u v v':Value}{y:Int}
  (rd:Rb wr b w1.heap.size S1) (fk:PB wr p FT u v) (ku:wr.ownsRow w1.heap.size STY 1 u ks'.length (sv ks')) (kv:wr.ownsRow w1.heap.size ITY 1 v is.length (iv is)) (res:PB wr w.heap.size FT zF zF) (size:w1.heap.size≤wr.heap.size) (below:Below w.heap.size w wr)
  (hb:b<w1.heap.size) (hp:w1.heap.size≤p) (hw:w.heap.size<w1.heap.size) (hwb:w.heap.size≤b) (hne:b≠w.heap.size)
  (ht:Turn (fun i=>i=b) wr w3) (hr:Rb w3 b w1.heap.size S3) (h4:Below w3.heap.size w3 w4) (hg:w4.grownBy w5 v.ownBlock) (ho:w5.ownsRow w1.heap.size ITY 1 v' (is++[y]).length (iv (is++[y]))) (hst:StF l ks' (is++[y]) S3):
  DecI w w1 (w5.setCell ⟨p,1,none⟩ v') l b p ks' (is++[y]) S3 u v'∧PB w5 p FT u v:=by
 have pb:p≠b:=by omega
 have k3:PB w3 p FT u v:=fk.turn ht pb;have k4:=k3.ext h4;have t5:=z3y hg;have u3:w3.ownsRow w1.heap.size STY 1 u ks'.length (sv ks'):=z1q ku ht (fun i hi e=>by have:=z3f ku i hi;omega);have u4:=z0p u3 h4 (zlr _);have v3:w3.ownsRow w1.heap.size ITY 1 v is.length (iv is):=z1q kv ht (fun i hi e=>by have:=z3f kv i hi;omega);have v4:=z0p v3 h4 (zlr _);have k5:PB w5 p FT u v:=k4.turn t5 (fun e=>z24 v4 k4 (by decide) p e rfl);have u5:w5.ownsRow w1.heap.size STY 1 u ks'.length (sv ks'):=z1q u4 t5 (fun i hi e=>y5n v4 u4 (by decide) i e hi);have ts:=z1e w5 p 1 v';have r4:=hr.below h4;have r5:Rb w5 b w1.heap.size S3:=r4.overF t5 (fun i hi=>⟨z3f v4 i hi,by have:=z3f v4 i hi;omega⟩);have z3:PB w3 w.heap.size FT zF zF:=res.turn ht (fun e=>hne e.symm);have z4:=z3.ext h4;have z5:PB w5 w.heap.size FT zF zF:=z4.turn t5 (fun e=>by have:=z3f v4 _ e;omega);have s5:w1.heap.size≤w5.heap.size:=znt size (znt ht.size (znt h4.size hg.size));have b3:Below w.heap.size w w3:=below.trans (ht.below below.size (fun i e=>by subst e;exact hwb));have b4:Below w.heap.size w w4:=b3.trans (h4.mono b3.size);have b5:Below w.heap.size w w5:=b4.grown hg b4.size (fun i hi=>by have:=z3f v4 i hi;omega);refine⟨⟨hst,r5.overF ts (fun i hi=>by subst hi;exact⟨hp,pb⟩),k5.set1 v',z1q u5 ts (fun i hi e=> ?_),z1q ho ts (fun i hi e=> ?_),z5.turn ts (fun e=>by omega),?_,b5.setCell (p:=⟨p,1,none⟩) (by show w.heap.size≤p;omega) v'⟩,k5⟩
 ·exact z24 u5 k5 (by decide) i hi e
 ·exact z24 ho k5 (by decide) i hi e
 ·rw[World.size_setCell];exact s5
def TyR (w:World)(v:Value)(T:TypeId):Prop:=∀g o n c,v=.slice (some ⟨g,o,none⟩) n c→∃A fz,w.heap[g]? =some (.cells A T fz)
theorem TyR.nil (w:World)(n c:Nat)(T:TypeId):TyR w (.slice none n c) T:=fun _ _ _ _ h=>by cases h
theorem TyR.own {w:World}{B E:Nat}{v:Value}{n:Nat}{xs:List Value}(h:w.ownsRow B E 1 v n xs):TyR w v E:=fun g o m c e=>by
 obtain⟨_,h2⟩:=h
 rcases h2 with ⟨rfl,_⟩|⟨g',cap,cur,rfl,_,hg,_⟩
 ·cases e
 ·cases e;exact⟨_,_,hg⟩
theorem TyR.below {w w':World}{v:Value}{T:TypeId}(h:TyR w v T)(hb:Below w.heap.size w w'):TyR w' v T:=fun g o n c e=>by
 obtain⟨A,fz,hg⟩:=h g o n c e;exact⟨A,fz,(hb.block g (zag.1 hg).1).trans hg⟩
theorem TyR.set2 {w:World}{b:Nat}{v u' v' a1 a2:Value}{T T':TypeId}(h:TyR w v T)(hb:PB w b T' a1 a2)(hT:T≠T'):TyR ((w.setCell ⟨b,0,none⟩ u').setCell ⟨b,1,none⟩ v') v T:=fun g o n c e=>by
 obtain⟨A,fz,hg⟩:=h g o n c e;have hne:¬g=b:=fun e=>by
  subst e;have h1:w.heap[g]? =_:=hb;rw[hg] at h1;injection h1 with h1
  injection h1 with _ h1 _
  exact hT h1
 exact⟨A,fz,(z9m w b u' v').hg hg hne⟩
set_option maxRecDepth 100000 in
set_option maxHeartbeats 4000000 in
theorem y5t (a:Option Addr)(n c:Nat)(l:List Nat)(w:World)(hn:l.length=n)(hs:Src w a l)(hz:a=none→c=0)(hl:n≤65536)(hb8:B8 l):
  Calls Tryz.prog 98 #[.slice a n c] w fun e w'=>∃u v,e=.returned (.tuple #[.agg #[u,v],errV (x0j l)])∧TxV w' u (y6m l)∧PgV w' v (y6n l)∧Below w.heap.size w w'∧TyR w' u STY:=by
 have Hn:=zh hn;obtain⟨w0,hw0⟩:∃w0,w0=w.alloc (.cells #[zF,zF] FT):=⟨_,rfl⟩
 have hb0:Hid (Below w.heap.size w w0):=by rw[hw0];exact(zbr _ _).alloc (zlr _) _
 have hres:Hid (PB w0 w.heap.size FT zF zF):=by rw[hw0];exact PB.new _ _ _ _
 have hsz0:Hid (w0.heap.size=w.heap.size+1):=by show _=_;rw[hw0];simp
 have hw0':=zh hw0.symm;have Hs:=zh (zai (hs.below hb0.out (zlr _)) hz);have H8:=zh hb8;clear hs hz hn hb8 hw0
 by_cases hlong:504<n
 ·have hd:=zh (y13 (y4b (l:=l) (.inl (by rw[Hn.out];exact hlong))));have d1:decide (504<(n:Int))=true:=zdt (by omega)
  go_enter Tryz.func98,Tryz.ntmps98
  go_wp2;refine bodyPost_ret (v:=.tuple #[.agg #[zF,zF],.iface 94 (.int .i64 3)]) (by rw[results_cell_tmp rfl];go_simp) rfl ⟨zF,zF,by rw[hd.out.2.2];rfl,by rw[hd.out.1];exact TxV.none _,by rw[hd.out.2.1];exact PgV.none _,?_,TyR.nil _ _ _ _⟩;have:=hb0.out;rw[←hw0'.out] at this;exact this
 ·have d1:decide (504<(n:Int))=false:=zdf (by omega);have hst:=zh (x5d l);have hnx:=zh (fun ks is S=>x8w (l:=l) (ks:=ks) (is:=is) (S:=S));have hend:=zh (fun ks is S=>q20 (l:=l) (ks:=ks) (is:=is) (S:=S))
  go_enter Tryz.func98,Tryz.ntmps98
  go_wp2_with fail;rw[hw0'.out];refine(x4k a n c l Hn.out w0 Hs.out.1 Hs.out.2 (by omega) H8.out).mono ?_;rintro e w1 ⟨b,rfl,hbb,hr1,hb1⟩;have hbw:Hid (w.heap.size≤b∧b≠w.heap.size∧b<w1.heap.size∧w.heap.size<w1.heap.size):=by
   have h1:=hsz0.out;have h2:=hr1.lt;have h3:=hb1.size;show _∧_∧_∧_;omega
  have Hr1:=zh hr1.rb;have hres1:=zh (hres.out.ext hb1);have Hb1:=zh (hb0.out.trans (hb1.mono hb0.out.size));clear hbb hr1 hb1 hres hb0 hw0' hsz0 Hs;have htk:=zh (y06 w1 b w1.heap.size ⟨l,false⟩ Hr1.out);have htl:=zh (q46 (S:=⟨l,false⟩) H8.out);obtain⟨⟨P0,S0⟩,hT⟩:∃T,T=tk2 ⟨l,false⟩:=⟨_,rfl⟩
  rw[←hT] at htk hst htl;dsimp only at htk hst htl;have hS0l:Hid (S0.l.length≤504):=by
   show _≤_;have e:S0=(tk2 ⟨l,false⟩).2:=by rw[←hT]
   rw[e];have h1:=Hn.out
   rcases zng l.length 2 with h|h
   ·rw[z9w false h];simp
   ·rw[x5c false h];show(List.drop 2 l).length≤_;rw[zld];omega
  clear hT;go_wp2_with fail;refine htk.out.mono ?_;rintro e w2 ⟨rfl,hr2,ht2⟩;have hrow:Hid (Below w2.heap.size w2 (w2.alloc (.cells #[.int .i64 (P0:Int)] ITY))):=(zbr _ _).alloc (zlr _) _;have Hr2:=zh hr2;have Ht2:=zh ht2;clear hr2 ht2 htk Hr1;dsimp only;go_wp2_with fail;obtain⟨p,hp⟩:∃p,p=w2.heap.size+1:=⟨_,rfl⟩
  have hpw:Hid (w1.heap.size≤p):=by show _≤_;rw[hp];have:=Ht2.out.size;omega
  obtain⟨wL,hwL⟩:∃x,x=(w2.alloc (.cells #[.int .i64 (P0:Int)] ITY)).alloc (.cells #[.slice none 0 0,.slice (some ⟨w2.heap.size,0,none⟩) 1 1] FT):=⟨_,rfl⟩
  have hI0:Hid (DecI w w1 wL l b p [] [(P0:Int)] S0 zF (.slice (some ⟨w2.heap.size,0,none⟩) 1 1)):=by
   have hb2:Below w.heap.size w w2:=Hb1.out.trans (Ht2.out.below Hb1.out.size (fun i e=>by subst e;exact hbw.out.1));have ha:=hrow.out;have hb:Below (w2.alloc (.cells #[.int .i64 (P0:Int)] ITY)).heap.size (w2.alloc (.cells #[.int .i64 (P0:Int)] ITY)) wL:=by rw[hwL];exact(zbr _ _).alloc (zlr _) _
   have hab:Below w2.heap.size w2 wL:=ha.trans (hb.mono ha.size);have e1:(w2.alloc (.cells #[.int .i64 (P0:Int)] ITY)).heap.size=w2.heap.size+1:=by simp
   have ho:(w2.alloc (.cells #[.int .i64 (P0:Int)] ITY)).ownsRow w1.heap.size ITY 1 (.slice (some ⟨w2.heap.size,0,none⟩) 1 1) 1 (iv [(P0:Int)]):=
    x84 w2 w1.heap.size (P0:Int) Ht2.out.size
   refine⟨hst.out,Hr2.out.below hab,?_,World.ownsRow_nil _ _ _ _,z0p ho hb (zlr _),(hres1.out.turn Ht2.out (fun e=>hbw.out.2.1 e.symm)).ext hab,znt Ht2.out.size hab.size,hb2.trans (hab.mono hb2.size)⟩;rw[hwL,hp,←e1];exact PB.new _ _ _ _
  have hwL':=zh hwL.symm;rw[←hwL,←hp];have hbp:Hid (p≠b):=by show _≠_;have:=hbw.out;have:=hpw.out;omega
  clear hwL hwL' hp hrow hst Hr2 Ht2 htl hres1
  go_loopg [17] S0.l.length (fun k _ wr=>∃(ks:List ByteArray) (is:List Int) (S:RS) (u v:Value),Hid (S.l.length=k)∧k+ks.length≤504∧is.length=ks.length+1∧Hid (DecI w w1 wr l b p ks is S u v))
  case atStart=>exact⟨[],[(P0:Int)],S0,_,_,rfl,by have:=hS0l.out;simp;omega,rfl,hI0⟩
  case round=>
   obtain⟨ks,is,S,u,v,hk,hkn,hin,hI⟩:=hrel;have hlf:=x8e wr b S hI.out.rd.rd;rw[hk.out] at hlf;have Hlf:=zh hlf;clear hlf
   by_cases h0:0<gk
   ·have d2:decide (0<(gk:Int))=true:=zdt (by omega);have hne:Hid (S.l≠[]):=fun e=>by have:=hk.out;rw[e] at this;simp at this;omega
    have hnx2:=zh (hnx.out ks is S hI.out.st hne.out);have hby:=zh (z5x wr.drew b w1.heap.size S (hI.out.rd.below (zbr _ _).drew) 40 40 rfl (by omega) (by omega));obtain⟨⟨KL,S1⟩,hBS⟩:∃B,B=z0g S 40:=⟨_,rfl⟩
    rw[←hBS] at hnx2 hby;dsimp only at hnx2 hby;have hfk:=zh hI.out.fk;have hfkd:Hid (PB wr.drew p FT u v):=hI.out.fk.ext (zbr _ _).drew;replace hfk:=hfkd;have hpb:Hid (¬p=b):=hbp.out;clear hBS hI0;go_wp2_with fail;refine Hlf.out.mono ?_;rintro e w' ⟨rfl,rfl⟩;go_wp2_with fail;refine z4i (fun _=>True) (.rd 0 (.rd 2 (.two 1 (.call 3 (.call 4 (.call 5 (.call 6 (.rd 7 (.call 8 .done)))))) 3 (.two 1 (.call 4 (.call 5 (.call 6 (.rd 7 (.call 8 .done))))) 4 (.two 1 (.call 5 (.call 6 (.rd 7 (.call 8 .done)))) 5 (.call 1 (.call 6 (.rd 7 (.call 8 .done))))))))) (by kernel_rfl) (by kernel_rfl) (by kernel_rfl) (by kernel_rfl) (fun _ _ _ _ _ h=>h) ?_;iterate 2 (refine z11 (o:=⟨_,_,_,_,_,_⟩) (v:= ?_) rfl (by rfl) ?_ ?_;rotate_left;(intro w' hw';go_simp;with_reducible rfl);simp only[Act.put,zs0,zs1,zs2])
    apply q0x
    case h=>
     intro share_k;refine⟨?_,?_⟩
     ·refine z0d (o:=⟨_,_,_,_,_,_⟩) rfl (by rfl) (fun K hK=> ?_);have cl:=hfkd.out.c0;go_simp;clear cl;refine hK (fun _=>True) (fun _ _ _=>trivial) _ _ (Turn.refl _ _) ?_;clear hK K;refine z0d (o:=⟨_,_,_,_,_,_⟩) rfl (by rfl) (fun K hK=> ?_);go_simp;refine hby.out.mono ?_;rintro e w3 ⟨v3,rfl,hv3,hr3,ht3⟩;refine hK (fun _=>True) (fun _ _ _=>trivial) _ _ (ht3.mono (fun _ _ _=>trivial)) ?_;clear hK K;have Hv3:=zh hv3;have Hr3:=zh hr3;have Ht3:=zh ht3;have Hk3:Hid (PB w3 p FT u v):=hfk.out.turn ht3 hpb.out;clear hv3 hr3 ht3;refine z0d (o:=⟨_,_,_,_,_,_⟩) rfl (by rfl) (fun K hK=> ?_);have cv:=Hv3.out.conv;go_simp;clear cv;refine hK (fun _=>True) (fun _ _ _=>trivial) _ _ (Turn.refl _ _) ?_;clear hK K;refine z0d (o:=⟨_,_,_,_,_,_⟩) rfl (by rfl) (fun K hK=> ?_);go_simp;refine hK (fun _=>True) (fun _ _ _=>trivial) _ _ (z2s w3 _ _) ?_;clear hK K
      revert Hv3 Hr3 Ht3 Hk3
      revert w3
      revert v3
      exact share_k
     ·refine z0d (o:=⟨_,_,_,_,_,_⟩) rfl (by rfl) (fun K hK=> ?_);go_simp;refine hby.out.mono ?_;rintro e w3 ⟨v3,rfl,hv3,hr3,ht3⟩;refine hK (fun _=>True) (fun _ _ _=>trivial) _ _ (ht3.mono (fun _ _ _=>trivial)) ?_;clear hK K;have Hv3:=zh hv3;have Hr3:=zh hr3;have Ht3:=zh ht3;have Hk3:Hid (PB w3 p FT u v):=hfk.out.turn ht3 hpb.out;clear hv3 hr3 ht3;refine⟨?_,?_⟩
      ·refine z0d (o:=⟨_,_,_,_,_,_⟩) rfl (by rfl) (fun K hK=> ?_);have cl:=Hk3.out.c0;go_simp;clear cl;refine hK (fun _=>True) (fun _ _ _=>trivial) _ _ (Turn.refl _ _) ?_;clear hK K;refine z0d (o:=⟨_,_,_,_,_,_⟩) rfl (by rfl) (fun K hK=> ?_);have cv:=Hv3.out.conv;go_simp;clear cv;refine hK (fun _=>True) (fun _ _ _=>trivial) _ _ (Turn.refl _ _) ?_;clear hK K;refine z0d (o:=⟨_,_,_,_,_,_⟩) rfl (by rfl) (fun K hK=> ?_);go_simp;refine hK (fun _=>True) (fun _ _ _=>trivial) _ _ (z2s w3 _ _) ?_;clear hK K
       revert Hv3 Hr3 Ht3 Hk3
       revert w3
       revert v3
       exact share_k
      ·refine z0d (o:=⟨_,_,_,_,_,_⟩) rfl (by rfl) (fun K hK=> ?_);have cv:=Hv3.out.conv;go_simp;clear cv;refine hK (fun _=>True) (fun _ _ _=>trivial) _ _ (Turn.refl _ _) ?_;clear hK K;refine⟨?_,?_⟩
       ·refine z0d (o:=⟨_,_,_,_,_,_⟩) rfl (by rfl) (fun K hK=> ?_);have cl:=Hk3.out.c0;go_simp;clear cl;refine hK (fun _=>True) (fun _ _ _=>trivial) _ _ (Turn.refl _ _) ?_;clear hK K;refine z0d (o:=⟨_,_,_,_,_,_⟩) rfl (by rfl) (fun K hK=> ?_);go_simp;refine hK (fun _=>True) (fun _ _ _=>trivial) _ _ (z2s w3 _ _) ?_;clear hK K
        revert Hv3 Hr3 Ht3 Hk3
        revert w3
        revert v3
        exact share_k
       ·refine z0d (o:=⟨_,_,_,_,_,_⟩) rfl (by rfl) (fun K hK=> ?_);go_simp;refine hK (fun _=>True) (fun _ _ _=>trivial) _ _ (z2s w3 _ _) ?_;clear hK K;refine z0d (o:=⟨_,_,_,_,_,_⟩) rfl (by rfl) (fun K hK=> ?_);have cl:=(Hk3.out.stay (.cells #[.string (bstr KL)] STY)).c0;go_simp;clear cl;refine hK (fun _=>True) (fun _ _ _=>trivial) _ _ (Turn.refl _ _) ?_;clear hK K
        revert Hv3 Hr3 Ht3 Hk3
        revert w3
        revert v3
        exact share_k
    case k=>
     intro v3 w3 Hv3 Hr3 Ht3 Hk3;clear hby hfk hfkd Hlf hne Hk3;have hnw:Hid (Below w3.heap.size w3 (w3.alloc (.cells #[.string (bstr KL)] STY))):=(zbr _ _).alloc (zlr _) _;have Ht:Hid (Turn (fun i=>i=b) wr w3):=(q5w (zbr wr.heap.size wr).drew).trans Ht3.out;have hou:Hid ((w3.alloc (.cells #[.string (bstr KL)] STY)).ownsRow w1.heap.size STY 1 u ks.length (sv ks)):=
      z0p (z1q hI.out.ku Ht.out (fun i hi e=>by have:=z3f hI.out.ku i hi;have:=hbw.out;omega)) hnw.out (zlr _)
     have hz3:Hid (w1.heap.size≤(w3.alloc (.cells #[.string (bstr KL)] STY)).heap.size):=znt hI.out.size (znt Ht.out.size hnw.out.size);have hc3:Hid ((w3.alloc (.cells #[.string (bstr KL)] STY)).cell? ⟨w3.heap.size,0,none⟩=some (.string (bstr KL))):=by show _=_;simp
     refine z0d (o:=⟨_,_,_,_,_,_⟩) rfl (by rfl) (fun K hK=> ?_);refine y0c (.tmp 21) (.tmp 25) 80 rfl w1.heap.size STY Tryz.underlying80 x2k u ks (by rfl) hou w3.heap.size 1 (bstr KL) (by rfl) hc3.out (by omega) hz3.out ?_;intro u' w5 ho5 hg5;refine hK (fun _=>True) (fun _ _ _=>trivial) _ _ ((z3y hg5.out).mono (fun _ _ _=>trivial)) ?_;clear hK K;have hN:=zh (hI.out.next hbw.out.2.2.1 hpw.out hbw.out.2.2.2 hbw.out.1 hbw.out.2.1 Ht.out Hr3.out hnw.out hg5.out ho5.out);obtain⟨au,nu,cu,rfl⟩:∃au nu cu,u'=.slice au nu cu:=by
      obtain⟨au,cu,e,_⟩:=y3s ho5.out;exact⟨au,_,cu,e⟩
     have z0:=hN.out.2.2.2.2.2.2.2.c0;have y0:=hN.out.2.2.2.2.2.2.2.fz 0;clear hou hz3 hc3 hnw Ht ho5 hg5 Hv3 Hr3 Ht3 hI;iterate 1 (refine z11 (o:=⟨_,_,_,_,_,_⟩) (v:= ?_) rfl (by rfl) ?_ ?_;rotate_left;(intro w' hw';go_simp;with_reducible rfl);simp only[Act.put,zs0,zs1,zs2])
     refine z0d (o:=⟨_,_,_,_,_,_⟩) rfl (by rfl) (fun K hK=> ?_);go_simp;refine hK (fun _=>True) (fun _ _ _=>trivial) _ _ ((z1e w5 p 0 _).mono (fun _ _ _=>trivial)) ?_;clear hK K z0 y0;refine z4j ?_;obtain⟨wX,hwX⟩:∃x,x=w5.setCell ⟨p,0,none⟩ (.slice au nu cu):=⟨_,rfl⟩
     rw[←hwX] at hN⊢
     clear hwX;obtain⟨ksN,hksN⟩:∃x,x=ks++[bstr KL]:=⟨_,rfl⟩
     have hkl:ksN.length=ks.length+1:=by rw[hksN];simp
     rw[←hksN] at hN hnx2;clear hksN;have htk:=zh (y06 wX.drew b w1.heap.size S1 (hN.out.1.below (zbr _ _).drew));obtain⟨⟨P1,S2⟩,hT⟩:∃T,T=tk2 S1:=⟨_,rfl⟩
     rw[←hT] at htk hnx2;dsimp only at htk hnx2;clear hT;have hfkd:Hid (PB wX.drew p FT (.slice au nu cu) v):=hN.out.2.1.ext (zbr _ _).drew;go_wp2_with fail;refine z4i (fun _=>True) (.rd 0 (.rd 2 (.two 1 (.call 3 (.call 4 (.call 5 (.rd 6 (.call 7 .done))))) 3 (.two 1 (.call 4 (.call 5 (.rd 6 (.call 7 .done)))) 4 (.call 1 (.call 5 (.rd 6 (.call 7 .done)))))))) (by kernel_rfl) (by kernel_rfl) (by kernel_rfl) (by kernel_rfl) (fun _ _ _ _ _ h=>h) ?_;iterate 2 (refine z11 (o:=⟨_,_,_,_,_,_⟩) (v:= ?_) rfl (by rfl) ?_ ?_;rotate_left;(intro w' hw';go_simp;with_reducible rfl);simp only[Act.put,zs0,zs1,zs2])
     apply q0x
     case h=>
      intro share_k;refine⟨?_,?_⟩
      ·refine z0d (o:=⟨_,_,_,_,_,_⟩) rfl (by rfl) (fun K hK=> ?_);have cl:=hfkd.out.c1;go_simp;clear cl;refine hK (fun _=>True) (fun _ _ _=>trivial) _ _ (Turn.refl _ _) ?_;clear hK K;refine z0d (o:=⟨_,_,_,_,_,_⟩) rfl (by rfl) (fun K hK=> ?_);go_simp;refine htk.out.mono ?_;rintro e w3 ⟨rfl,hr3,ht3⟩;refine hK (fun _=>True) (fun _ _ _=>trivial) _ _ (ht3.mono (fun _ _ _=>trivial)) ?_;clear hK K;have Hr3:=zh hr3;have Ht3:=zh ht3;have Hk3:Hid (PB w3 p FT (.slice au nu cu) v):=hfkd.out.turn ht3 hpb.out;clear hr3 ht3;refine z0d (o:=⟨_,_,_,_,_,_⟩) rfl (by rfl) (fun K hK=> ?_);go_simp;refine hK (fun _=>True) (fun _ _ _=>trivial) _ _ (z2s w3 _ _) ?_;clear hK K
       revert Hr3 Ht3 Hk3
       revert w3
       exact share_k
      ·refine z0d (o:=⟨_,_,_,_,_,_⟩) rfl (by rfl) (fun K hK=> ?_);go_simp;refine htk.out.mono ?_;rintro e w3 ⟨rfl,hr3,ht3⟩;refine hK (fun _=>True) (fun _ _ _=>trivial) _ _ (ht3.mono (fun _ _ _=>trivial)) ?_;clear hK K;have Hr3:=zh hr3;have Ht3:=zh ht3;have Hk3:Hid (PB w3 p FT (.slice au nu cu) v):=hfkd.out.turn ht3 hpb.out;clear hr3 ht3;refine⟨?_,?_⟩
       ·refine z0d (o:=⟨_,_,_,_,_,_⟩) rfl (by rfl) (fun K hK=> ?_);have cl:=Hk3.out.c1;go_simp;clear cl;refine hK (fun _=>True) (fun _ _ _=>trivial) _ _ (Turn.refl _ _) ?_;clear hK K;refine z0d (o:=⟨_,_,_,_,_,_⟩) rfl (by rfl) (fun K hK=> ?_);go_simp;refine hK (fun _=>True) (fun _ _ _=>trivial) _ _ (z2s w3 _ _) ?_;clear hK K
        revert Hr3 Ht3 Hk3
        revert w3
        exact share_k
       ·refine z0d (o:=⟨_,_,_,_,_,_⟩) rfl (by rfl) (fun K hK=> ?_);go_simp;refine hK (fun _=>True) (fun _ _ _=>trivial) _ _ (z2s w3 _ _) ?_;clear hK K;refine z0d (o:=⟨_,_,_,_,_,_⟩) rfl (by rfl) (fun K hK=> ?_);have cl:=(Hk3.out.stay (.cells #[.int .i64 (P1:Int)] ITY)).c1;go_simp;clear cl;refine hK (fun _=>True) (fun _ _ _=>trivial) _ _ (Turn.refl _ _) ?_;clear hK K
        revert Hr3 Ht3 Hk3
        revert w3
        exact share_k
     case k=>
      intro w3 Hr3 Ht3 Hk3;clear htk hfkd Hk3;have hnw:Hid (Below w3.heap.size w3 (w3.alloc (.cells #[.int .i64 (P1:Int)] ITY))):=(zbr _ _).alloc (zlr _) _;have Ht:Hid (Turn (fun i=>i=b) wX w3):=(q5w (zbr wX.heap.size wX).drew).trans Ht3.out;have hou:Hid ((w3.alloc (.cells #[.int .i64 (P1:Int)] ITY)).ownsRow w1.heap.size ITY 1 v is.length (iv is)):=
       z0p (z1q hN.out.2.2.2.1 Ht.out (fun i hi e=>by have:=z3f hN.out.2.2.2.1 i hi;have:=hbw.out;omega)) hnw.out (zlr _)
      have hz3:Hid (w1.heap.size≤(w3.alloc (.cells #[.int .i64 (P1:Int)] ITY)).heap.size):=znt hN.out.2.2.2.2.2.1 (znt Ht.out.size hnw.out.size);have hc3:Hid ((w3.alloc (.cells #[.int .i64 (P1:Int)] ITY)).cell? ⟨w3.heap.size,0,none⟩=some (.int .i64 (P1:Int))):=by show _=_;simp
      refine z0d (o:=⟨_,_,_,_,_,_⟩) rfl (by rfl) (fun K hK=> ?_);refine y0d (.tmp 29) (.tmp 32) 76 rfl w1.heap.size ITY Tryz.underlying76 z81 v is (by rfl) hou w3.heap.size 1 (P1:Int) (by rfl) hc3.out (by omega) hz3.out ?_;intro v' w6 ho6 hg6;refine hK (fun _=>True) (fun _ _ _=>trivial) _ _ ((z3y hg6.out).mono (fun _ _ _=>trivial)) ?_;clear hK K;have hI2:=zh (q6e hN.out.1 hN.out.2.1 hN.out.2.2.1 hN.out.2.2.2.1 hN.out.2.2.2.2.1 hN.out.2.2.2.2.2.1 hN.out.2.2.2.2.2.2.1 hbw.out.2.2.1 hpw.out hbw.out.2.2.2 hbw.out.1 hbw.out.2.1 Ht.out Hr3.out hnw.out hg6.out ho6.out hnx2.out.1);obtain⟨av,nv,cv,rfl⟩:∃av nv cv,v'=.slice av nv cv:=by
       obtain⟨av,cv,e,_⟩:=z4n ho6.out;exact⟨av,_,cv,e⟩
      have z0:=hI2.out.2.c1;have y0:=hI2.out.2.fz 1;have hlt:=zh hnx2.out.2;clear hou hz3 hc3 hnw Ht ho6 hg6 Hr3 Ht3 hN;iterate 1 (refine z11 (o:=⟨_,_,_,_,_,_⟩) (v:= ?_) rfl (by rfl) ?_ ?_;rotate_left;(intro w' hw';go_simp;with_reducible rfl);simp only[Act.put,zs0,zs1,zs2])
      refine z0d (o:=⟨_,_,_,_,_,_⟩) rfl (by rfl) (fun K hK=> ?_);go_simp;refine hK (fun _=>True) (fun _ _ _=>trivial) _ _ ((z1e w6 p 1 _).mono (fun _ _ _=>trivial)) ?_;clear hK K z0 y0;refine z4j ?_;have hI3:=zh hI2.out.1;clear hI2 hnx2;go_wp2_with fail
      go_roundg S2.l.length
      case measure=>have:=hlt.out;have:=hk.out;omega
      case rel=>exact⟨ksN,is++[(P1:Int)],S2,_,_,rfl,by have:=hlt.out;have:=hk.out;omega,by simp;omega,hI3⟩
   ·obtain rfl:gk=0:=by omega
    have hnil:Hid (S.l=[]):=List.eq_nil_of_length_eq_zero hk.out;have he:=hend.out ks is S hI.out.st hnil.out (by rw[Hn.out];omega);have he1:=zh (fun h=>y13 (he.1 h));have he2:=zh (fun h h2=>y13 (he.2.1 h h2));have he3:=zh (fun h h2=>y8l (he.2.2 h h2));have hdn:=zh (y82 wr b S hI.out.rd.rd);obtain⟨au,cu,rfl,htx⟩:=y3s hI.out.ku;obtain⟨av,cv,rfl,hpx⟩:=z4n hI.out.kv;have Htx:=zh (zai htx hpx);have f0:=hI.out.fk.c0;have f1:=hI.out.fk.c1;clear he htx hpx hnx hend hI0 hnil;go_wp2_with fail;refine Hlf.out.mono ?_;rintro e w' ⟨rfl,rfl⟩
    cases hok:okS S with
    | false=>
     have hd:=zh (he1.out hok);have hdv:z5w S=errV 3:=by unfold z5w;rw[hok];rfl
     rw[hdv] at hdn;clear he1 he2 he3 hok hdv;go_wp2_with fail;refine hdn.out.mono ?_;rintro e w' ⟨rfl,rfl⟩;rw[q0f];have r0:=hI.out.res.c0;have r1:=hI.out.res.c1;have g0:=hI.out.res.fz 0;have g1:=hI.out.res.fz 1;have R1:=(hI.out.res.set0 zF).set1 zF;have y0:=R1.c0;have y1:=R1.c1;have hB:Hid (Below w.heap.size w ((wr.setCell ⟨w.heap.size,0,none⟩ zF).setCell ⟨w.heap.size,1,none⟩ zF)):=(hI.out.below.setCell (p:=⟨w.heap.size,0,none⟩) (zlr _) _).setCell (p:=⟨w.heap.size,1,none⟩) (zlr _) _;clear R1;go_wp2;refine bodyPost_ret (v:=.tuple #[.agg #[zF,zF],.iface 94 (.int .i64 3)]) (by rw[results_cell_tmp rfl];go_simp) rfl ⟨zF,zF,by rw[hd.out.2.2];rfl,by rw[hd.out.1];exact TxV.none _,by rw[hd.out.2.1];exact PgV.none _,hB.out,TyR.nil _ _ _ _⟩
    | true=>
     have hdv:z5w S=.nilIface:=by unfold z5w;rw[hok];rfl
     rw[hdv] at hdn;have he2':=zh (he2.out hok);have he3':=zh (he3.out hok);have hch:=zh (z9q au av ks.length cu is.length cv ks is wr rfl rfl Htx.out.1.1 Htx.out.2.1 (by omega) (by omega));have hKl:Hid (ks.length=ks.length∧is.length=is.length):=⟨rfl,rfl⟩
     obtain⟨nk,hnk⟩:∃x,x=ks.length:=⟨_,rfl⟩
     obtain⟨ni,hni⟩:∃x,x=is.length:=⟨_,rfl⟩
     have hni65:ni≤505:=by omega
     replace hKl:Hid (ks.length=nk∧is.length=ni):=⟨hnk.symm,hni.symm⟩
     have HI:=zh hI.out;rw[←hnk] at f0;rw[←hni] at f1;rw[←hnk,←hni] at hch;clear he1 he2 he3 hok hdv hnk hni;go_wp2_with fail;refine hdn.out.mono ?_;rintro e w' ⟨rfl,rfl⟩;go_wp2_with fail;refine hch.out.mono ?_;rintro e w6 ⟨D,rfl,hD,hb6⟩;have HD:=zh hD;have Hb6:=zh (HI.out.below.trans (hb6.mono HI.out.below.size));have Hr6:=zh (HI.out.res.ext hb6);have Hf6:=zh (HI.out.fk.ext hb6);have Hty6:=zh ((TyR.own HI.out.ku).below hb6);have Ht6:=zh (zai (Htx.out.1.1.below hb6 (zlr _)) (Htx.out.2.1.below hb6 (zlr _)));clear hD hb6 hch f0 f1;unfold chkF
     cases D with
     | false=>
      have hd:=zh (he2'.out (fun h=>by have:=HD.out.2 h;cases this));clear he2' he3' HD;simp only[Bool.false_eq_true,if_false];have r0:=Hr6.out.c0;have r1:=Hr6.out.c1;have g0:=Hr6.out.fz 0;have g1:=Hr6.out.fz 1;have R1:=(Hr6.out.set0 zF).set1 zF;have y0:=R1.c0;have y1:=R1.c1;have hB:Hid (Below w.heap.size w ((w6.setCell ⟨w.heap.size,0,none⟩ zF).setCell ⟨w.heap.size,1,none⟩ zF)):=(Hb6.out.setCell (p:=⟨w.heap.size,0,none⟩) (zlr _) _).setCell (p:=⟨w.heap.size,1,none⟩) (zlr _) _;clear R1;go_wp2;refine bodyPost_ret (v:=.tuple #[.agg #[zF,zF],.iface 94 (.int .i64 3)]) (by rw[results_cell_tmp rfl];go_simp) rfl ⟨zF,zF,by rw[hd.out.2.2];rfl,by rw[hd.out.1];exact TxV.none _,by rw[hd.out.2.1];exact PgV.none _,hB.out,TyR.nil _ _ _ _⟩
     | true=>
      have hd:=zh (he3'.out (HD.out.1 rfl));clear he2' he3' HD;simp only[if_true];have f0:=Hf6.out.c0;have f1:=Hf6.out.c1;rw[hKl.out.1] at f0;rw[hKl.out.2] at f1;have r0:=Hr6.out.c0;have r1:=Hr6.out.c1;have g0:=Hr6.out.fz 0;have g1:=Hr6.out.fz 1;have R1:=(Hr6.out.set0 (.slice au nk cu)).set1 (.slice av ni cv);have y0:=R1.c0;have y1:=R1.c1;have hB:Hid (Below w.heap.size w ((w6.setCell ⟨w.heap.size,0,none⟩ (.slice au nk cu)).setCell ⟨w.heap.size,1,none⟩ (.slice av ni cv))):=(Hb6.out.setCell (p:=⟨w.heap.size,0,none⟩) (zlr _) _).setCell (p:=⟨w.heap.size,1,none⟩) (zlr _) _;have hT:=zh (x85 w6 w.heap.size (.slice au nk cu) (.slice av ni cv) au av ks is zF zF FT Hr6.out Ht6.out.1 Ht6.out.2 rfl rfl);clear R1;go_wp2;refine bodyPost_ret (v:=.tuple #[.agg #[.slice au nk cu,.slice av ni cv],.nilIface]) (by rw[results_cell_tmp rfl];go_simp) rfl ⟨_,_,by rw[hd.out.2.2];rfl,?_,?_,hB.out,by have h:=Hty6.out;rw[hKl.out.1] at h;exact h.set2 Hr6.out (by decide)⟩
      ·rw[hd.out.1];exact⟨au,cu,by rw[hKl.out.1],hT.out.1,Htx.out.1.2⟩
      ·rw[hd.out.2.1];exact⟨av,cv,by rw[hKl.out.2],hT.out.2,Htx.out.2.2⟩
set_option maxRecDepth 100000 in
theorem x86 (p:Option Addr)(es:List En)(H:Nat)(w:World)(ht:x07 w p es H)(hl:es.length≤100000):
  Calls Tryz.prog 17 #[.agg #[.pointer p,.int .i64 es.length]] w fun e w'=>∃v,e=.returned v∧EV entE w' v es∧Below w.heap.size w w':=by
 rcases ht with ⟨rfl,rfl,_⟩|⟨b,h,s,rfl,hn,hs,hs3,_⟩
 ·go_enter Tryz.func17,Tryz.ntmps17
  go_wp2;go_ret;exact⟨_,rfl,EV.none _,(zbr _ _).alloc (zlr _) _⟩
 ·obtain⟨w0,hw0,hc0,hb0⟩:=z0b w TT #[pt b,.int .i64 es.length];obtain⟨W,hW,hbW⟩:∃W,w0.drew=W∧Below w0.heap.size w0 W:=⟨_,rfl,(zbr _ _).drew⟩
  have hbx:=hb0.trans (hbW.mono hb0.size);have hcW:W.heap[w.heap.size]? =some (.cells #[pt b,.int .i64 es.length] TT (0,0)):=(hbW.block _ (zag.1 hc0).1).trans hc0;have lW:w.heap.size<W.heap.size:=(zag.1 hcW).1;have q0:∀w',Turn (fun i=>W.heap.size≤i) W w'→w'.cell? ⟨w.heap.size,0,none⟩=some (pt b):=fun w' hx=>by
   have h1:=(hx.block _ lW (by omega)).trans hcW;simp[World.cell?,h1]
  have q1:∀w',Turn (fun i=>W.heap.size≤i) W w'→w'.cell? ⟨w.heap.size,1,none⟩=some (.int .i64 es.length):=fun w' hx=>by
   have h1:=(hx.block _ lW (by omega)).trans hcW;simp[World.cell?,h1]
  obtain⟨i0,hi,hz,hs0,hby⟩:=info_parts q2h;obtain⟨w1,hrun,hown,hgr⟩:=run_make_own (P:=Tryz.prog) W W.heap.size 63 ET i0 entE.zero entE.sz Tryz.underlying63 hi hz hs0 .i64 .i64 es.length (by rw[hby];show 32*es.length≤_;omega) (by unfold maxLen;omega) (zlr _);have hb1:Below W.heap.size W w1:=(zbr _ W).grown hgr (zlr _) (fun k hk=>by cases hk);have Hcall:=zh (z4y W h none none b es s _ [] w1 (Nd.ext hbx h hn) (by omega) hb1 hown (by simp;omega));have Hb1:=zh hb1;have HB:=zh hbx;have HW:Hid ((w.alloc (.cells #[pt b,.int .i64 es.length] TT)).drew=W):=by show _=_;rw[hw0,hW]
  obtain⟨n,hn'⟩:∃n,es.length=n:=⟨_,rfl⟩
  have Hn:=zh hn';rw[hn'] at q1 hrun Hcall HW hl;rw[hn'];clear hw0 hc0 hb0 hW hbW hbx hcW lW hi hz hs0 hby hown hgr hb1 hn hs hs3 hn'
  go_enter Tryz.func17,Tryz.ntmps17
  go_wp2_with fail;refine z0k (F:=fun i=>W.heap.size≤i) [(0,true),(1,true),(3,true),(4,true),(2,false),(5,false),(6,true)] (by kernel_rfl) (by kernel_rfl) (by kernel_rfl) (by kernel_rfl) (fun _ _ _ _ _ h=>h) ?_;rw[HW.out];iterate 4 (refine gtr (v:= ?_) rfl (by rfl) ?_ ?_;rotate_left;(intro w' hw';go_simp;with_reducible rfl);simp only[Act.put,zs0,zs1,zs2])
  clear q0 q1;refine gtc rfl (by rfl) (fun K hK=> ?_);go_simp;refine hK _ _ (q5w Hb1.out) ?_;clear hK K hrun;refine gtc rfl (by rfl) (fun K hK=> ?_);go_simp;refine Hcall.out.mono ?_;rintro e w2 ⟨v,rfl,ho,hb2,hb3⟩;refine hK _ _ (z0v hb3) ?_;clear hK K Hcall;have Hev:Hid (EV entE w2 v es):=z1u (B:=W.heap.size) (T:=ET) (by simpa using ho);have HB2:=zh (HB.out.trans (hb2.mono HB.out.size));clear ho hb2 hb3
  (refine gtr (v:= ?_) rfl (by rfl) ?_ ?_;rotate_left;(intro w' hw';go_simp;with_reducible rfl);simp only[Act.put,zs0,zs1,zs2])
  refine z0z ?_;go_wp2_with fail;go_ret;exact⟨v,rfl,Hev.out,HB2.out⟩
theorem x5l (es:List En):entE.row (bare es)=entE.row es:=by
 induction es with
 | nil=>rfl
 | cons e r ih=>
  have e1:bare (e::r)=e.bare::bare r:=rfl;rw[e1,Elt.row,Elt.row,ih];rfl
theorem EV.bare {w:World}{v:Value}{es:List En}(h:EV entE w v es):EV entE w v (bare es):=by
 obtain⟨a,c,rfl,hs,h1,h2,h3⟩:=h;refine⟨a,c,by rw[z1p],?_,h1,by rw[z1p];exact h2,h3⟩
 rcases hs with ⟨rfl,rfl⟩|⟨g,o,rfl,ht,hc⟩
 ·exact .inl ⟨rfl,rfl⟩
 ·exact .inr ⟨g,o,rfl,ht,by rw[x5l];exact hc⟩
theorem y24 (p:Option Addr)(es:List En)(H:Nat)(w:World)(ht:x8x w p es H)(hl:es.length≤100000):
  Calls Tryz.prog 17 #[.agg #[.pointer p,.int .i64 es.length]] w fun e w'=>∃v,e=.returned v∧EV entE w' v es∧Below w.heap.size w w':=by
 obtain⟨es',rfl,h⟩:=ht;rw[z1p] at hl⊢
 refine(x86 p es' H w h hl).mono ?_;rintro e w' ⟨v,rfl,hv,hb⟩;exact⟨v,rfl,hv.bare,hb⟩
end Go.Proofs.YtdnfhjfbanhhcaaGreatDoor
