/-
  Steps.
-/
import Derived.Test.YtdgladhfibfdlaaGreatDoorQPLs17
import Derived.Test.YtdgladhfibfdlaaGreatDoorQPLs13
namespace Go.Proofs.YtdgladhfibfdlaaGreatDoor
open Go Go.RowKit
theorem z37 (b:Nat)(vc vk:Value)(w:World)(hb:NB w b vc vk nilS):Calls Tryz.prog 62 #[pt b] w fun e w'=>e=.returned (.bool true)∧w=w':=by
 have q2:=hb.c3;clear hb
 go_enter Tryz.func62,Tryz.ntmps62
 go_wp2;go_ret;exact⟨rfl,rfl⟩
theorem z38 (b:Nat)(vc vk:Value)(a:Option Addr)(n c:Nat)(w:World)(hb:NB w b vc vk (.slice a n c))(h0:0<n):Calls Tryz.prog 62 #[pt b] w fun e w'=>e=.returned (.bool false)∧w=w':=by
 have q2:=hb.c3;have d1:((n:Int)==0)=false:=by rw[beq_eq_false_iff_ne];omega
 clear hb
 go_enter Tryz.func62,Tryz.ntmps62
 go_wp2;go_ret;exact⟨rfl,rfl⟩
theorem z77 (b:Nat)(es:List En)(w:World)(hb:Leaf w b es)(hl:es.length≤1000000):Calls Tryz.prog 149 #[pt b] w fun e w'=>e=.returned (.int .i64 (vs es.length:Nat))∧w=w':=by
 obtain⟨vc,h1,a,c,rfl,_⟩:=hb;have q0:=h1.c1;have hi:=zh (z37 b _ _ w h1);have hs:=zh (z6q es.length w (by omega));have z1:IntKind.u64.wrap (es.length:Int)=(es.length:Int):=by rw[IntKind.wrap_u64];omega
 clear h1;generalize es.length=n at*
 go_enter Tryz.func149,Tryz.ntmps149
 go_wp2_with fail;refine hi.out.mono ?_;rintro e w' ⟨rfl,rfl⟩;go_wp2_with fail;refine hs.out.mono ?_;rintro e w' ⟨rfl,rfl⟩;go_wp2;go_ret;exact⟨rfl,rfl⟩
theorem z78 (b:Nat)(ks:List ByteArray)(ps:List Nat)(w:World)(hb:Bran w b ks ps)(hl:0<ps.length):Calls Tryz.prog 149 #[pt b] w fun e w'=>e=.returned (.int .i64 2)∧w=w':=by
 obtain⟨vk,vp,h1,_,a,c,rfl,_⟩:=hb;have hi:=zh (z38 b _ _ _ _ _ w h1 hl);have hs:=zh (z5y none 0 0 [] w rfl (TxS.nil _ _) (by omega) (fun i hi=>by simp at hi));rw[show((z1k [] 0:Nat):Int)=2 from rfl] at hs;clear h1
 go_enter Tryz.func149,Tryz.ntmps149
 go_wp2_with fail;refine hi.out.mono ?_;rintro e w' ⟨rfl,rfl⟩;go_wp2_with fail;refine hs.out.mono ?_;rintro e w' ⟨rfl,rfl⟩;go_wp2;go_ret;exact⟨rfl,rfl⟩
theorem x8m (es:List En)(k:Nat)(h:k<es.length):(szI es).take (k+1)=(szI es).take k++[((szE (ea es k):Nat):Int)]:=by
 rw[y6d _ _ (by unfold szI;simpa using h),x33 _ _ h]
theorem x8n (ks:List ByteArray)(k:Nat)(h:k<ks.length):(ksI ks).take (k+1)=(ksI ks).take k++[((3+(sa ks k).size:Nat):Int)]:=by
 rw[y6d _ _ (by unfold ksI;simpa using h),x34 _ _ h]
theorem z40 (es:List En):(szI es).length=es.length:=by unfold szI;simp
theorem z41 (ks:List ByteArray):(ksI ks).length=ks.length:=by unfold ksI;simp
set_option maxRecDepth 100000 in
theorem y0z (b:Nat)(es:List En)(w:World)(hb:Leaf w b es)(hl:es.length≤1000000)(hok:∀x∈es,okE x):Calls Tryz.prog 148 #[pt b] w fun e w'=>∃v,e=.returned v∧PgV w' v (szI es)∧Below w.heap.size w w':=by
 obtain⟨vc,h1,a,c,rfl,hs,_⟩:=hb;have H1:=zh h1;have Hs:=zh hs;have Hok:=zh hok;have q0:=h1.c1;have HN:∃n,es.length=n:=⟨_,rfl⟩
 obtain⟨n,hn⟩:=HN;have Hn:=zh hn;rw[hn] at q0 hl;clear h1 hs hok hn
 go_enter Tryz.func148,Tryz.ntmps148
 go_wp2_with fail
 go_loopw [3,5,13] (fun lv _ i wr=>∃(k:Nat) (v:Value),i=.int .i64 k∧v=lv∧k≤n∧Hid (wr.ownsRow w.heap.size 3 1 v ((szI es).take k).length (iv ((szI es).take k)))∧Hid (Below w.heap.size w wr)) (fun _ _ i _=>n-(intOf i).toNat)
 case atStart=>exact⟨0,nilS,rfl,rfl,by omega,World.ownsRow_nil w w.heap.size 3 1,zbr _ _⟩
 case round=>
  obtain⟨k,v,rfl,rfl,hk,hown,hB⟩:=hrel
  by_cases hlt:k<n
  ·obtain⟨g,o,rfl,hcell⟩:=(Hs.out.below hB.out (zlr _)).ents (by rw[Hn.out];omega);obtain⟨p0,p1,_,p2,⟨sa,sc,rfl,_⟩⟩:=hcell k (by rw[Hn.out];exact hlt);have Htk:=zh (x8m es k (by rw[Hn.out];exact hlt));have hsz:=hB.out.size;have Htl:Hid (((szI es).take k).length=k):=by show _=_;rw[zlk,z40,Hn.out];omega
   have hoke:=Hok.out (ea es k) (z4q (by rw[Hn.out];exact hlt));have hks:=z08 hoke.1;have hvs:=hoke.2;have hsr:=(z6m hoke).2;have Hcall:=zh (z73 (ea es k).k (ea es k).v.size (wr.alloc (.cells #[.string (ea es k).k,.string (ea es k).v,.slice sa (ea es k).ch.length sc] TCT)) (by omega) (by omega));have e1:Hid (z68 (ea es k).k ((ea es k).v.size:Int)=szE (ea es k)):=rfl;rw[e1.out] at Hcall;generalize szE (ea es k)=S at*;generalize ea es k=y at*;obtain⟨yk,yv,yc⟩:=y;dsimp only at p0 p1 p2 Hcall hks hvs;generalize yc.length=yn at*;clear hcell hoke e1;go_wp2_with fail;refine Hcall.out.mono ?_;rintro e w' ⟨rfl,rfl⟩;clear Hcall
   go_wp2_with (at_builtin;refine z2p rfl (.tmp 17) (.tmp 26) 101 rfl w.heap.size 3 Tryz.underlying101 z81 _ ((szI es).take k) (by rfl) ((hown.out.alloc _).alloc _) (wr.heap.size+1) 1 (S:Int) (by rfl) (by simp) (by rw[Htl.out];omega) (by simp;omega) ?_;intro v' w2 hown2 hgrow2)
   have hb2:Hid (Below w.heap.size w w2):=((hB.out.alloc hsz _).alloc (by simp;omega) _).grown hgrow2.out (by simp;omega) (fun j hj=>(hown.out.lt j hj).1);have ho2:Hid (w2.ownsRow w.heap.size 3 1 v' ((szI es).take (k+1)).length (iv ((szI es).take (k+1)))):=by rw[Htk.out];exact hown2
   clear hown2 hgrow2 hown hB;go_wp2
   go_roundw
   case rel=>exact⟨k+1,v',by go_num,rfl,by omega,ho2,hb2⟩
   case measure=>simp[intOf];omega
  ·obtain rfl:k=n:=by omega
   have ho:=hown.out;rw[List.take_of_length_le (by rw[z40,Hn.out];exact zlr _)] at ho;have hcl:=zh (z3f ho);have q1:=(H1.out.ext hB.out).c2;clear ho hown;go_wp2_with fail
   go_loopw [3,7,34] (fun lv _ i wr2=>lv=v∧i=.int .i64 0∧wr=wr2) (fun _ _ _ _=>0)
   case atStart=>exact⟨rfl,rfl,by first|trivial|rfl⟩
   case round=>
    obtain⟨rfl,rfl,rfl⟩:=hrel;go_wp2;go_ret;exact⟨_,rfl,hcl.out,hB.out⟩
set_option maxRecDepth 100000 in
theorem y00 (b:Nat)(ks:List ByteArray)(ps:List Nat)(w:World)(hb:Bran w b ks ps)(hl:ks.length≤1000000)(hok:∀x∈ks,okK x=true):Calls Tryz.prog 148 #[pt b] w fun e w'=>∃v,e=.returned v∧PgV w' v (ksI ks)∧Below w.heap.size w w':=by
 obtain⟨vk,vp,h1,⟨a,c,rfl,hs,_⟩,_⟩:=hb;have H1:=zh h1;have Hs:=zh hs.texts;have Hok:=zh hok;have q0:=h1.c1;have q1:=h1.c2;have HN:∃n,ks.length=n:=⟨_,rfl⟩
 obtain⟨n,hn⟩:=HN;have Hn:=zh hn;rw[hn] at q1 hl;clear h1 hs hok hn
 go_enter Tryz.func148,Tryz.ntmps148
 go_wp2_with fail
 go_loopw [3,5,13] (fun lv _ i wr=>lv=nilS∧i=.int .i64 0∧w=wr) (fun _ _ _ _=>0)
 case atStart=>exact⟨rfl,rfl,by first|trivial|rfl⟩
 case round=>
  obtain⟨rfl,rfl,rfl⟩:=hrel;go_wp2_with fail
  go_loopw [3,7,34] (fun lv _ i wr=>∃(k:Nat) (v:Value),i=.int .i64 k∧lv=v∧k≤n∧Hid (wr.ownsRow w.heap.size 3 1 v ((ksI ks).take k).length (iv ((ksI ks).take k)))∧Hid (Below w.heap.size w wr)) (fun _ _ i _=>n-(intOf i).toNat)
  case atStart=>exact⟨0,nilS,rfl,rfl,by omega,World.ownsRow_nil w w.heap.size 3 1,zbr _ _⟩
  case round=>
   obtain⟨k,v,rfl,rfl,hk,hown,hB⟩:=hrel
   by_cases hlt:k<n
   ·obtain⟨g,o,rfl,hcell⟩:=(Hs.out.below hB.out (zlr _)) (by rw[Hn.out];omega)
    have p0:=hcell k (by rw[Hn.out];exact hlt);have Htk:=zh (x8n ks k (by rw[Hn.out];exact hlt));have hsz:=hB.out.size;have Htl:Hid (((ksI ks).take k).length=k):=by show _=_;rw[zlk,z41,Hn.out];omega
    have hoke:=Hok.out (sa ks k) (by unfold sa;rw[List.getD_eq_getElem?_getD,List.getElem?_eq_getElem (by rw[Hn.out];exact hlt)];exact List.getElem_mem _);have hks:=z08 hoke;have Hcall:=zh (z5y (some ⟨wr.heap.size,0,none⟩) 1 1 [sa ks k] (wr.alloc (.cells #[.string (sa ks k)] 9)) rfl (fun _=>⟨wr.heap.size,0,rfl,fun i hi=>by have h0:i=0:=Nat.lt_one_iff.1 hi;subst h0;simp[sa]⟩) (by omega) (fun i hi=>by
     have h0:i=0:=Nat.lt_one_iff.1 hi;subst h0;exact⟨hoke,by rw[z5s,if_pos rfl];exact z9a (z08 hoke).1⟩))
    have e1:Hid (((z1k [sa ks k] 1:Nat):Int)=((5+(sa ks k).size:Nat):Int)):=by show _=_;rw[z1k,z1k];show((2+(3+(sa [sa ks k] 0).size):Nat):Int)=_;rw[show sa [sa ks k] 0=sa ks k from rfl];omega
    rw[e1.out] at Hcall;have Hcall2:=fun w=>z5y none 0 0 [] w rfl (TxS.nil _ _) (by omega) (fun i hi=>by simp at hi)
    have Hcall2:=zh Hcall2;rw[show((z1k [] 0:Nat):Int)=2 from rfl] at Hcall2;clear hcell hoke e1;generalize sa ks k=y at*;obtain⟨S,hS⟩:∃S,S=3+y.size:=⟨_,rfl⟩
    obtain⟨S5,hS5⟩:∃S5,S5=5+y.size:=⟨_,rfl⟩
    rw[←hS] at Htk;rw[←hS5] at Hcall;have z1:IntKind.i64.wrap ((S5:Int)-2)=(S:Int):=by rw[IntKind.wrap_i64];omega
    clear hS hS5;go_wp2_with fail;refine Hcall.out.mono ?_;rintro e w' ⟨rfl,rfl⟩;clear Hcall;go_wp2_with fail;refine(Hcall2.out _).mono ?_;rintro e w' ⟨rfl,rfl⟩;clear Hcall2
    go_wp2_with (at_builtin;refine z2p rfl (.tmp 38) (.tmp 44) 101 rfl w.heap.size 3 Tryz.underlying101 z81 _ ((ksI ks).take k) (by rfl) ((hown.out.alloc _).alloc _) (wr.heap.size+1) 1 (S:Int) (by rfl) (by simp) (by rw[Htl.out];omega) (by simp;omega) ?_;intro v' w2 hown2 hgrow2)
    have hb2:Hid (Below w.heap.size w w2):=((hB.out.alloc hsz _).alloc (by simp;omega) _).grown hgrow2.out (by simp;omega) (fun j hj=>(hown.out.lt j hj).1);have ho2:Hid (w2.ownsRow w.heap.size 3 1 v' ((ksI ks).take (k+1)).length (iv ((ksI ks).take (k+1)))):=by rw[Htk.out];exact hown2
    clear hown2 hgrow2 hown hB;go_wp2
    go_roundw
    case rel=>exact⟨k+1,v',by go_num,rfl,by omega,ho2,hb2⟩
    case measure=>simp[intOf];omega
   ·obtain rfl:k=n:=by omega
    have ho:=hown.out;rw[List.take_of_length_le (by rw[z41,Hn.out];exact zlr _)] at ho;have hcl:=zh (z3f ho);clear ho hown;go_wp2;go_ret;exact⟨_,rfl,hcl.out,hB.out⟩
theorem q47 {es:List En}(h:∀x∈es,okE x):okTo (szI es) es.length:=fun i hi=>by
 rw[x33 es i hi,z3y];have:=z6m (h _ (z4q hi));omega
theorem q48 {ks:List ByteArray}(h:∀x∈ks,okK x=true):okTo (ksI ks) ks.length:=fun i hi=>by
 rw[x34 ks i hi,z3y];have h1:sa ks i∈ks:=by unfold sa;rw[List.getD_eq_getElem?_getD,List.getElem?_eq_getElem hi];exact List.getElem_mem _
 have:=z08 (h _ h1);omega
set_option maxRecDepth 100000 in
theorem y9e (b m n:Nat)(l:List Int)(w:World)(hn:l.length=n)(hl:n≤1000000)(hok:okTo l n)(hm:m≤100)
  (h1:∀w',Below w.heap.size w w'→Calls Tryz.prog 149 #[pt b] w' fun e w''=>e=.returned (.int .i64 m)∧w'=w'')
  (h2:∀w',Below w.heap.size w w'→Calls Tryz.prog 148 #[pt b] w' fun e w''=>∃v,e=.returned v∧PgV w'' v l∧Below w'.heap.size w' w''):
  Calls Tryz.prog 146 #[pt b] w fun e w'=>e=.returned (.int .i64 ((m:Int)+pf l n))∧Below w.heap.size w w':=by
 have H1:=zh (h1 w (zbr _ _));have H2:=zh (h2 w (zbr _ _));have Hok:=zh hok;have Hn:=zh hn;clear h1 h2 hok hn
 go_enter Tryz.func146,Tryz.ntmps146
 go_wp2_with fail;refine H1.out.mono ?_;rintro e w' ⟨rfl,rfl⟩;clear H1;go_wp2_with fail;refine H2.out.mono ?_;rintro e w1 ⟨v,rfl,⟨a,c,rfl,hs,_⟩,hb⟩;have Hs:=zh hs;have Hb:=zh hb;rw[Hn.out];clear hs hb H2;go_wp2_with fail
 go_loopw [3,5,11] (fun s _ i wr=>∃k t:Nat,s=.int .i64 t∧i=.int .i64 k∧k≤n∧t≤m+1024*k∧Hid ((t:Int)=(m:Int)+pf l k)∧w1=wr) (fun _ _ i _=>n-(intOf i).toNat)
 case atStart=>exact⟨0,m,rfl,rfl,by omega,by omega,by show _=_;rw[z5r];omega,by first|trivial|rfl⟩
 case round=>
  obtain⟨k,t,rfl,rfl,hk,ht,hts,rfl⟩:=hrel
  by_cases hlt:k<n
  ·obtain⟨g,o,rfl,hcell⟩:=Hs.out (by rw[Hn.out];omega);have q0:=hcell k (by rw[Hn.out];exact hlt);have h1:=(z3y _).1 (Hok.out k hlt);have h5:Hid ((t:Int)+ia l k=(m:Int)+pf l (k+1)):=by show _=_;rw[z67,hts.out];omega
   obtain⟨x,hx⟩:=Int.eq_ofNat_of_zero_le h1.1;rw[hx] at q0 h1 h5;have h6:x≤1024:=by omega
   clear hcell hts hx h1;go_wp2
   go_roundw
   case rel=>exact⟨k+1,t+x,by go_num,by go_num,by omega,by omega,by show _=_;rw[←h5.out];omega,by first|trivial|rfl⟩
   case measure=>simp[intOf];omega
  ·obtain rfl:k=n:=by omega
   go_wp2;go_ret;exact⟨by rw[←hts.out];rfl,Hb.out⟩
theorem y49 (b:Nat)(es:List En)(w:World)(hb:Leaf w b es)(hl:es.length≤1000000)(hok:∀x∈es,okE x):Calls Tryz.prog 146 #[pt b] w fun e w'=>e=.returned (.int .i64 (z0v es:Nat))∧Below w.heap.size w w':=by
 have hv:=z6a (show es.length<18446744073709551616 by omega);refine(y9e b (vs es.length) es.length (szI es) w (z40 es) hl (q47 hok) (by omega) (fun w' hw=>z77 b es w' (hb.ext hw) hl) (fun w' hw=>y0z b es w' (hb.ext hw) hl hok)).mono ?_;rintro e w' ⟨rfl,h⟩;refine⟨?_,h⟩;rw[y81,List.take_of_length_le (zlr _)];unfold z0v;rw[show((vs es.length+szs es:Nat):Int)=(vs es.length:Int)+(szs es:Int) by omega]
theorem y5a (b:Nat)(ks:List ByteArray)(ps:List Nat)(w:World)(hb:Bran w b ks ps)(hp:0<ps.length)(hl:ks.length≤1000000)(hok:∀x∈ks,okK x=true):Calls Tryz.prog 146 #[pt b] w fun e w'=>e=.returned (.int .i64 (brSz ks:Nat))∧Below w.heap.size w w':=by
 refine(y9e b 2 ks.length (ksI ks) w (z41 ks) hl (q48 hok) (by omega) (fun w' hw=>z78 b ks ps w' (hb.ext hw) hp) (fun w' hw=>y00 b ks ps w' (hb.ext hw) hl hok)).mono ?_;rintro e w' ⟨rfl,h⟩;refine⟨?_,h⟩;rw[y82,List.take_of_length_le (zlr _)];unfold brSz;rw[show((2+kss ks:Nat):Int)=((2:Nat):Int)+(kss ks:Int) by omega]
theorem z42 {h:Nat}{lo hi:SB}{b:Nat}{es:List En}{s:Nat}(w:World)(hn:Nd w h lo hi b es s)(hs:s≤100000):Calls Tryz.prog 146 #[pt b] w fun e w'=>e=.returned (.int .i64 (s:Nat))∧Below w.heap.size w w':=by
 cases h with
 | zero=>
  obtain⟨h1,_,_,h4,rfl⟩:=hn;have hok:=fun x hx=>(h4 x hx).1
  have h5:=z1q hok;exact y49 b es w h1 (by unfold z0v at hs;omega) hok
 | succ h=>
  obtain⟨ks,ps,ess,h1,h2,_,rfl⟩:=hn;have hok:=(h2.facts Good.facts).2.2.2;have h5:=z0y hok;exact y5a b ks ps w h1 (by have:=h2.len;omega) (by unfold brSz at hs;omega) hok
abbrev RFT:TypeId:=209
def Sw (w:World)(v:Value)(l:List Nat):Prop:=∃a c,v=.slice a l.length c∧Src w a l∧(a=none→c=0)∧l.length≤c∧c≤maxLen
theorem Sl.sw {w:World}{v:Value}{l:List Nat}(h:Sl w v l):Sw w v l:=h.arg
theorem Sw.arg {w:World}{v:Value}{l:List Nat}(h:Sw w v l):∃a c,v=.slice a l.length c∧Src w a l∧(a=none→c=0)∧l.length≤c∧c≤maxLen:=h
theorem Sw.sl {w:World}{v:Value}{l:List Nat}(h:Sw w v l)(h0:l≠[]):Sl w v l:=by
 obtain⟨a,c,rfl,hs,_,h1,h2⟩:=h;obtain⟨g,o,rfl,hc⟩:=hs (List.length_pos_iff.2 h0);exact .inr ⟨g,o,c,rfl,hc,h1,h2⟩
theorem Sw.below {w w':World}{v:Value}{l:List Nat}{B:Nat}(h:Sw w v l)(hb:Below B w w')(hB:w.heap.size≤B):Sw w' v l:=by
 obtain⟨a,c,rfl,hs,hz,h1,h2⟩:=h;exact⟨a,c,rfl,hs.below hb hB,hz,h1,h2⟩
structure RfW (w:World) (x:Value) (S:RS):Prop where
 ex:∃v,x=.agg #[v,.bool S.wr]∧Sw w v S.l
 b8:B8 S.l
 len:S.l.length≤65536
 inv:S.wr=true→S.l=[]
theorem q27 (w:World)(T:TypeId)(v1 v2:Value)(x1 x2:Bool):Below w.heap.size w ((w.alloc (.cells #[v1,.bool x1] T)).alloc (.cells #[v2,.bool x2] T)).drew∧
  RSB ((w.alloc (.cells #[v1,.bool x1] T)).alloc (.cells #[v2,.bool x2] T)).drew w.heap.size T v1 x1∧RSB ((w.alloc (.cells #[v1,.bool x1] T)).alloc (.cells #[v2,.bool x2] T)).drew (w.heap.size+1) T v2 x2:=by
 have hsz:(w.alloc (.cells #[v1,.bool x1] T)).heap.size=w.heap.size+1:=by simp
 refine⟨(((zbr w.heap.size w).alloc (zlr _) (.cells #[v1,.bool x1] T)).alloc (by omega) _).drew,?_,?_⟩
 ·have h1:=RSB.new w T v1 x1;have hb:Below (w.heap.size+1) (w.alloc (.cells #[v1,.bool x1] T)) ((w.alloc (.cells #[v1,.bool x1] T)).alloc (.cells #[v2,.bool x2] T)):=(zbr _ _).alloc (by omega) _;have h3:=h1.below hb (by omega);exact h3
 ·have h2:=RSB.new (w.alloc (.cells #[v1,.bool x1] T)) T v2 x2;rw[hsz] at h2;exact h2
theorem q28 {w w2:World}{a:Option Addr}{n c:Nat}{wr:Bool}
  (hb:Below ((w.alloc (.cells #[.slice a n c,.bool wr] RFT)).alloc (.cells #[.slice none 0 0,.bool false] RFT)).heap.size ((w.alloc (.cells #[.slice a n c,.bool wr] RFT)).alloc (.cells #[.slice none 0 0,.bool false] RFT)) w2) (v:Value) (y:Bool):
  (RSB w2 w.heap.size RFT (.slice a n c) wr∧y0v w2 w.heap.size)∧
  RSB ((w2.setCell ⟨w.heap.size,0,none⟩ v).setCell ⟨w.heap.size,1,none⟩ (.bool y)) w.heap.size RFT v y∧
  RSB ((w2.setCell ⟨w.heap.size,0,none⟩ v).setCell ⟨w.heap.size,1,none⟩ (.bool y)) (w.heap.size+1) RFT (.slice none 0 0) false∧
  Below w.heap.size w ((w2.setCell ⟨w.heap.size,0,none⟩ v).setCell ⟨w.heap.size,1,none⟩ (.bool y)):=by
 obtain⟨h1,h2,h3⟩:=q27 w RFT (.slice a n c) (.slice none 0 0) wr false;have hz:w.heap.size+2=((w.alloc (.cells #[.slice a n c,.bool wr] RFT)).alloc (.cells #[.slice none 0 0,.bool false] RFT)).heap.size:=by simp
 have h1':Below w.heap.size w ((w.alloc (.cells #[.slice a n c,.bool wr] RFT)).alloc (.cells #[.slice none 0 0,.bool false] RFT)):=
  ((zbr w.heap.size w).alloc (zlr _) (.cells #[.slice a n c,.bool wr] RFT)).alloc (by simp) _
 have h2':RSB ((w.alloc (.cells #[.slice a n c,.bool wr] RFT)).alloc (.cells #[.slice none 0 0,.bool false] RFT)) w.heap.size RFT (.slice a n c) wr:=h2;have h3':RSB ((w.alloc (.cells #[.slice a n c,.bool wr] RFT)).alloc (.cells #[.slice none 0 0,.bool false] RFT)) (w.heap.size+1) RFT (.slice none 0 0) false:=h3;have k2:=h2'.below hb (by omega);have k3:=h3'.below hb (by omega);refine⟨⟨k2,k2.noByte⟩,(k2.set0 v).set1 y,k3.turn (z0u _ _ _ _) (by omega),?_⟩;exact Below.setCell (p:=⟨w.heap.size,1,none⟩) (Below.setCell (p:=⟨w.heap.size,0,none⟩) (h1'.trans (hb.mono (by omega))) (zlr _) v) (zlr _) _
theorem y68 (w:World)(x:Value)(S:RS)(h:RfW w x S):
  Calls Tryz.prog 111 #[x] w fun e w'=>e=.returned (.bool (okS S))∧Below w.heap.size w w':=by
 obtain⟨v,rfl,h2⟩:=h.ex;have hl:=h.len;obtain⟨a,c,rfl,_⟩:=h2.arg;obtain⟨l,wr⟩:=S;dsimp only at*;clear h h2;have hb:Hid (Below w.heap.size w (w.alloc (.cells #[.slice a l.length c,.bool wr] RFT))):=(zbr _ _).alloc (zlr _) _
 cases wr with
 | true=>
  have e:Hid (okS ⟨l,true⟩=false):=by show _=_;unfold okS;simp
  generalize l.length=n at*
  go_enter Tryz.func111,Tryz.ntmps111
  go_wp2;go_ret;exact⟨by rw[e.out];rfl,hb.out⟩
 | false=>
  have e:Hid (okS ⟨l,false⟩=decide (l.length=0)):=by show _=_;unfold okS;cases l<;>simp
  generalize l.length=n at*;have d1:((n:Int)==0)=decide (n=0):=by rw[Bool.eq_iff_iff];simp
  generalize decide (n=0)=D at*
  go_enter Tryz.func111,Tryz.ntmps111
  go_wp2;go_ret;exact⟨by rw[e.out];rfl,hb.out⟩
theorem z9o (l:List Nat):(opS l).2.1.length≤504:=by
 unfold opS;split
 ·simp
 ·split
  ·simp
  ·split
   ·rename_i h
    show((l.drop 4).take _).length≤504;rw[zlk];have:=h.2.2.1;omega
   ·simp
theorem y01 (a:Option Addr)(n c:Nat)(l:List Nat)(hn:l.length=n)(w:World)(hb:B8 l)(hlc:n≤c)(hcm:c≤140737488355328)(hsrc:Src w a l):
  Calls Tryz.prog 107 #[.slice a n c] w fun e w'=>∃v,e=.returned (.tuple #[.int .u8 ((opS l).1:Nat),v,.int .i64 ((opS l).2.2:Nat)])∧Sl w' v (opS l).2.1∧Below w.heap.size w w':=by
 subst hn;have hcx:c≤maxLen:=by unfold maxLen;omega
 by_cases h512:l.length=512
 ·obtain⟨b,o,rfl,hcs⟩:=hsrc (by omega);have hI:=x4f b o c l w h512 (by omega) hcm hcs hb;rw[h512]
  by_cases hs:numL (l.drop 508)=(more 0#32 (l.take 508)).toNat
  ·rw[zdt hs] at hI;have hcore:=y4v b o c _ _ _ _ _ _ _ l w h512 (by omega) hcm hcs hb hI rfl rfl rfl rfl rfl rfl rfl
   by_cases hgood:(1≤l.getD 0 0∧l.getD 0 0≤5)∧l.getD 1 0=0∧l.getD 2 0*256+l.getD 3 0≤504∧z2o ((l.take 508).drop (4+(l.getD 2 0*256+l.getD 3 0)))=true
   ·rw[x78 h512 hs hgood];obtain⟨g1,g2,g3,g4⟩:=hgood;rw[zdt ⟨g1,g2,g3⟩,g4] at hcore;have hLl:((l.drop 4).take (l.getD 2 0*256+l.getD 3 0)).length=l.getD 2 0*256+l.getD 3 0:=by rw[zlk,zld];omega
    have hlt:=hcs.lt (by omega);refine hcore.mono ?_;rintro e w' ⟨rfl,hbw⟩;refine⟨_,rfl,?_,hbw⟩;exact .inr ⟨b,o+4,c-4,by rw[hLl],(hcs.below hbw hlt).cut 4 _,by rw[hLl];omega,by omega⟩
   ·rw[x77 h512 hs hgood];have hf:(decide ((1≤l.getD 0 0∧l.getD 0 0≤5)∧l.getD 1 0=0∧l.getD 2 0*256+l.getD 3 0≤504)&&z2o ((l.take 508).drop (4+(l.getD 2 0*256+l.getD 3 0))))=false:=by
     rw[Bool.and_eq_false_iff,decide_eq_false_iff_not]
     by_cases hz:z2o ((l.take 508).drop (4+(l.getD 2 0*256+l.getD 3 0)))=true
     ·left;intro h;exact hgood ⟨h.1,h.2.1,h.2.2,hz⟩
     ·right;exact Bool.eq_false_iff.2 hz
    rw[hf] at hcore;refine hcore.mono ?_;rintro e w' ⟨rfl,hbw⟩;exact⟨_,rfl,Sl.none _,hbw⟩
  ·rw[q1p h512 hs];rw[zdf hs] at hI;refine(y6r b o c w hI).mono ?_;rintro e w' ⟨rfl,rfl⟩;exact⟨_,rfl,Sl.none _,zbr _ _⟩
 ·rw[q1o h512];refine(y6q a _ c w h512).mono ?_;rintro e w' ⟨rfl,rfl⟩;exact⟨_,rfl,Sl.none _,zbr _ _⟩
def Lo (v:Value)(B:Nat):Prop:=∀g o n c,v=.slice (some ⟨g,o,none⟩) n c→0<n→g<B
theorem Lo.none (B:Nat):Lo (.slice none 0 0) B:=fun _ _ _ _ e=>by cases e
theorem Lo.empty (a:Option Addr)(c B:Nat):Lo (.slice a 0 c) B:=fun _ _ _ _ e h0=>by
 simp only[Value.slice.injEq] at e;omega
theorem Lo.same {g o n c o' n' c' B:Nat}(h:Lo (.slice (some ⟨g,o,Option.none⟩) n c) B)(h1:n'≤n):Lo (.slice (some ⟨g,o',Option.none⟩) n' c') B:=fun g2 o2 n2 c2 e h0=>by
 cases e
 exact h g o n c rfl (by omega)
theorem z5b (w:World)(o:Obj)(F:Nat→Prop):Turn F w (w.alloc o):=(Turn.refl F w).alloc o
theorem z22 {w w':World}{row:Option Nat}(hg:w.grownBy w' row):Turn (fun i=>row=some i) w w':=
 ⟨hg.os,hg.tape,hg.output,hg.size,fun i hi hne=>hg.block i hi (fun e=>hne e.symm)⟩
theorem x5b {S:RS}{l:List Nat}{b:Bool}(h1:S.l=l)(h2:S.wr=b):S=⟨l,b⟩:=by
 obtain⟨x,y⟩:=S;dsimp only at h1 h2;rw[h1,h2]
theorem q6w {w:World}{a:Option Addr}{c:Nat}{l:List Nat}(h:Src w a l):Lo (.slice a l.length c) w.heap.size:=fun g o n c' e h0=>by
 simp only[Value.slice.injEq] at e;obtain⟨rfl,rfl,rfl⟩:=e;obtain⟨g',o',e,hc⟩:=h h0
 cases e
 exact hc.lt h0
theorem Sl.overLo {w w':World}{B:Nat}{v:Value}{l:List Nat}{F:Nat→Prop}(h:Sl w v l)(hl:Lo v B)(t:Turn F w w')(hF:∀i,F i→B≤i):Sl w' v l:=by
 rcases h with h4|⟨g',o',c',rfl,hc,h5,h6⟩
 ·exact .inl h4
 ·refine .inr ⟨g',o',c',rfl,fun i hi=> ?_,h5,h6⟩;have hlt:=hl g' o' _ c' rfl (by omega);rw[t.cell (p:=⟨g',o'+i,Option.none⟩) (block_lt_of_cell (hc i hi)) (fun hx=>by have:=hF g' hx;omega)];exact hc i hi
theorem q29 {w:World}{B E sz n:Nat}{v:Value}{xs:List Value}(h:w.ownsRow B E sz v n xs):∀i,v.ownBlock=some i→i<w.heap.size:=fun i hi=>(h.lt i hi).2
theorem z1r {w w':World}{B E sz n:Nat}{v:Value}{xs:List Value}{F:Nat→Prop}(h:w.ownsRow B E sz v n xs)(t:Turn F w w')(hF:∀i,v.ownBlock=some i→¬F i):w'.ownsRow B E sz v n xs:=by
 refine⟨h.1,?_⟩
 rcases h.2 with h1|⟨g,cap,cur,h1,h2,h3,h4⟩
 ·exact .inl h1
 ·exact .inr ⟨g,cap,cur,h1,h2,t.hg h3 (hF g (by rw[h1];rfl)),h4⟩
theorem q3a (v:Nat):beL v 2=[v/256%256,v%256]:=rfl
end Go.Proofs.YtdgladhfibfdlaaGreatDoor
