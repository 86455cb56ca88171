/-
  Steps.
-/
import Derived.Test.YtdnfhjfbanhhcaaGreatDoorQLBk17
import Derived.Test.YtdnfhjfbanhhcaaGreatDoorQLBk13
import Derived.Test.YtdnfhjfbanhhcaaGreatDoorQLBk16
namespace Go.Proofs.YtdnfhjfbanhhcaaGreatDoor
open Go Go.RowKit
theorem z3v (b:Nat)(vc vk:Value)(w:World)(hb:NB w b vc vk nilS):Calls Tryz.prog 43 #[pt b] w fun e w'=>e=.returned (.bool true)∧w=w':=by
 have q2:=hb.c3;clear hb
 go_enter Tryz.func43,Tryz.ntmps43
 go_wp2;go_ret;exact⟨rfl,rfl⟩
theorem z3w (b:Nat)(vc vk:Value)(a:Option Addr)(n c:Nat)(w:World)(hb:NB w b vc vk (.slice a n c))(h0:0<n):Calls Tryz.prog 43 #[pt b] w fun e w'=>e=.returned (.bool false)∧w=w':=by
 have q2:=hb.c3;have d1:((n:Int)==0)=false:=by rw[beq_eq_false_iff_ne];omega
 clear hb
 go_enter Tryz.func43,Tryz.ntmps43
 go_wp2;go_ret;exact⟨rfl,rfl⟩
theorem z72 (b:Nat)(es:List En)(w:World)(hb:Leaf w b es)(hl:es.length≤1000000):Calls Tryz.prog 147 #[pt b] w fun e w'=>e=.returned (.int .i64 (vs es.length:Nat))∧w=w':=by
 obtain⟨vc,h1,a,c,rfl,_⟩:=hb;have q0:=h1.c1;have hi:=zh (z3v b _ _ w h1);have hs:=zh (z6n es.length w (by omega));have z1:IntKind.u64.wrap (es.length:Int)=(es.length:Int):=by rw[IntKind.wrap_u64];omega
 clear h1;generalize es.length=n at*
 go_enter Tryz.func147,Tryz.ntmps147
 go_wp2_with fail;refine hi.out.mono ?_;rintro e w' ⟨rfl,rfl⟩;go_wp2_with fail;refine hs.out.mono ?_;rintro e w' ⟨rfl,rfl⟩;go_wp2;go_ret;exact⟨rfl,rfl⟩
theorem z73 (b:Nat)(ks:List ByteArray)(ps:List Nat)(w:World)(hb:Bran w b ks ps)(hl:0<ps.length):Calls Tryz.prog 147 #[pt b] w fun e w'=>e=.returned (.int .i64 2)∧w=w':=by
 obtain⟨vk,vp,h1,_,a,c,rfl,_⟩:=hb;have hi:=zh (z3w b _ _ _ _ _ w h1 hl);have hs:=zh (z5s none 0 0 [] w rfl (TxS.nil _ _) (by omega) (fun i hi=>by simp at hi));rw[show((z1c [] 0:Nat):Int)=2 from rfl] at hs;clear h1
 go_enter Tryz.func147,Tryz.ntmps147
 go_wp2_with fail;refine hi.out.mono ?_;rintro e w' ⟨rfl,rfl⟩;go_wp2_with fail;refine hs.out.mono ?_;rintro e w' ⟨rfl,rfl⟩;go_wp2;go_ret;exact⟨rfl,rfl⟩
theorem x8k (es:List En)(k:Nat)(h:k<es.length):(szI es).take (k+1)=(szI es).take k++[((szE (ea es k):Nat):Int)]:=by
 rw[y6e _ _ (by unfold szI;simpa using h),x3l _ _ h]
theorem x8l (ks:List ByteArray)(k:Nat)(h:k<ks.length):(ksI ks).take (k+1)=(ksI ks).take k++[((3+(sa ks k).size:Nat):Int)]:=by
 rw[y6e _ _ (by unfold ksI;simpa using h),x3m _ _ h]
theorem z4u (es:List En):(szI es).length=es.length:=by unfold szI;simp
theorem z4v (ks:List ByteArray):(ksI ks).length=ks.length:=by unfold ksI;simp
set_option maxRecDepth 100000 in
theorem y04 (b:Nat)(es:List En)(w:World)(hb:Leaf w b es)(hl:es.length≤1000000)(hok:∀x∈es,okE x):Calls Tryz.prog 146 #[pt b] w fun e w'=>∃v,e=.returned v∧PgV w' v (szI es)∧Below w.heap.size w w':=by
 obtain⟨vc,h1,a,c,rfl,hs,_⟩:=hb;have H1:=zh h1;have Hs:=zh hs;have Hok:=zh hok;have q0:=h1.c1;have HN:∃n,es.length=n:=⟨_,rfl⟩
 obtain⟨n,hn⟩:=HN;have Hn:=zh hn;rw[hn] at q0 hl;clear h1 hs hok hn
 go_enter Tryz.func146,Tryz.ntmps146
 go_wp2_with fail
 go_loopw [3,5,13] (fun lv _ i wr=>∃(k:Nat) (v:Value),i=.int .i64 k∧v=lv∧k≤n∧Hid (wr.ownsRow w.heap.size 3 1 v ((szI es).take k).length (iv ((szI es).take k)))∧Hid (Below w.heap.size w wr)) (fun _ _ i _=>n-(intOf i).toNat)
 case atStart=>exact⟨0,nilS,rfl,rfl,by omega,World.ownsRow_nil w w.heap.size 3 1,zbr _ _⟩
 case round=>
  obtain⟨k,v,rfl,rfl,hk,hown,hB⟩:=hrel
  by_cases hlt:k<n
  ·obtain⟨g,o,rfl,hcell⟩:=(Hs.out.below hB.out (zlr _)).ents (by rw[Hn.out];omega);obtain⟨p0,p1,_,p2,⟨sa,sc,rfl,_⟩⟩:=hcell k (by rw[Hn.out];exact hlt);have Htk:=zh (x8k es k (by rw[Hn.out];exact hlt));have hsz:=hB.out.size;have Htl:Hid (((szI es).take k).length=k):=by show _=_;rw[zlk,z4u,Hn.out];omega
   have hoke:=Hok.out (ea es k) (z4e (by rw[Hn.out];exact hlt));have hks:=z1a hoke.1;have hvs:=hoke.2;have hsr:=(z6h hoke).2;have Hcall:=zh (z71 (ea es k).k (ea es k).v.size (wr.alloc (.cells #[.string (ea es k).k,.string (ea es k).v,.slice sa (ea es k).ch.length sc] TCT)) (by omega) (by omega));have e1:Hid (z32 (ea es k).k ((ea es k).v.size:Int)=szE (ea es k)):=rfl;rw[e1.out] at Hcall;generalize szE (ea es k)=S at*;generalize ea es k=y at*;obtain⟨yk,yv,yc⟩:=y;dsimp only at p0 p1 p2 Hcall hks hvs;generalize yc.length=yn at*;clear hcell hoke e1;go_wp2_with fail;refine Hcall.out.mono ?_;rintro e w' ⟨rfl,rfl⟩;clear Hcall
   go_wp2_with (at_builtin;refine z2g rfl (.tmp 17) (.tmp 26) 76 rfl w.heap.size 3 Tryz.underlying76 z81 _ ((szI es).take k) (by rfl) ((hown.out.alloc _).alloc _) (wr.heap.size+1) 1 (S:Int) (by rfl) (by simp) (by rw[Htl.out];omega) (by simp;omega) ?_;intro v' w2 hown2 hgrow2)
   have hb2:Hid (Below w.heap.size w w2):=((hB.out.alloc hsz _).alloc (by simp;omega) _).grown hgrow2.out (by simp;omega) (fun j hj=>(hown.out.lt j hj).1);have ho2:Hid (w2.ownsRow w.heap.size 3 1 v' ((szI es).take (k+1)).length (iv ((szI es).take (k+1)))):=by rw[Htk.out];exact hown2
   clear hown2 hgrow2 hown hB;go_wp2
   go_roundw
   case rel=>exact⟨k+1,v',by go_num,rfl,by omega,ho2,hb2⟩
   case measure=>simp[intOf];omega
  ·obtain rfl:k=n:=by omega
   have ho:=hown.out;rw[List.take_of_length_le (by rw[z4u,Hn.out];exact zlr _)] at ho;have hcl:=zh (z4n ho);have q1:=(H1.out.ext hB.out).c2;clear ho hown;go_wp2_with fail
   go_loopw [3,7,34] (fun lv _ i wr2=>lv=v∧i=.int .i64 0∧wr=wr2) (fun _ _ _ _=>0)
   case atStart=>exact⟨rfl,rfl,by first|trivial|rfl⟩
   case round=>
    obtain⟨rfl,rfl,rfl⟩:=hrel;go_wp2;go_ret;exact⟨_,rfl,hcl.out,hB.out⟩
set_option maxRecDepth 100000 in
theorem y05 (b:Nat)(ks:List ByteArray)(ps:List Nat)(w:World)(hb:Bran w b ks ps)(hl:ks.length≤1000000)(hok:∀x∈ks,okK x=true):Calls Tryz.prog 146 #[pt b] w fun e w'=>∃v,e=.returned v∧PgV w' v (ksI ks)∧Below w.heap.size w w':=by
 obtain⟨vk,vp,h1,⟨a,c,rfl,hs,_⟩,_⟩:=hb;have H1:=zh h1;have Hs:=zh hs.texts;have Hok:=zh hok;have q0:=h1.c1;have q1:=h1.c2;have HN:∃n,ks.length=n:=⟨_,rfl⟩
 obtain⟨n,hn⟩:=HN;have Hn:=zh hn;rw[hn] at q1 hl;clear h1 hs hok hn
 go_enter Tryz.func146,Tryz.ntmps146
 go_wp2_with fail
 go_loopw [3,5,13] (fun lv _ i wr=>lv=nilS∧i=.int .i64 0∧w=wr) (fun _ _ _ _=>0)
 case atStart=>exact⟨rfl,rfl,by first|trivial|rfl⟩
 case round=>
  obtain⟨rfl,rfl,rfl⟩:=hrel;go_wp2_with fail
  go_loopw [3,7,34] (fun lv _ i wr=>∃(k:Nat) (v:Value),i=.int .i64 k∧lv=v∧k≤n∧Hid (wr.ownsRow w.heap.size 3 1 v ((ksI ks).take k).length (iv ((ksI ks).take k)))∧Hid (Below w.heap.size w wr)) (fun _ _ i _=>n-(intOf i).toNat)
  case atStart=>exact⟨0,nilS,rfl,rfl,by omega,World.ownsRow_nil w w.heap.size 3 1,zbr _ _⟩
  case round=>
   obtain⟨k,v,rfl,rfl,hk,hown,hB⟩:=hrel
   by_cases hlt:k<n
   ·obtain⟨g,o,rfl,hcell⟩:=(Hs.out.below hB.out (zlr _)) (by rw[Hn.out];omega)
    have p0:=hcell k (by rw[Hn.out];exact hlt);have Htk:=zh (x8l ks k (by rw[Hn.out];exact hlt));have hsz:=hB.out.size;have Htl:Hid (((ksI ks).take k).length=k):=by show _=_;rw[zlk,z4v,Hn.out];omega
    have hoke:=Hok.out (sa ks k) (by unfold sa;rw[List.getD_eq_getElem?_getD,List.getElem?_eq_getElem (by rw[Hn.out];exact hlt)];exact List.getElem_mem _);have hks:=z1a hoke;have Hcall:=zh (z5s (some ⟨wr.heap.size,0,none⟩) 1 1 [sa ks k] (wr.alloc (.cells #[.string (sa ks k)] 9)) rfl (fun _=>⟨wr.heap.size,0,rfl,fun i hi=>by have h0:i=0:=Nat.lt_one_iff.1 hi;subst h0;simp[sa]⟩) (by omega) (fun i hi=>by
     have h0:i=0:=Nat.lt_one_iff.1 hi;subst h0;exact⟨hoke,by rw[y0a,if_pos rfl];exact y37 (z1a hoke).1⟩))
    have e1:Hid (((z1c [sa ks k] 1:Nat):Int)=((5+(sa ks k).size:Nat):Int)):=by show _=_;rw[z1c,z1c];show((2+(3+(sa [sa ks k] 0).size):Nat):Int)=_;rw[show sa [sa ks k] 0=sa ks k from rfl];omega
    rw[e1.out] at Hcall;have Hcall2:=fun w=>z5s none 0 0 [] w rfl (TxS.nil _ _) (by omega) (fun i hi=>by simp at hi)
    have Hcall2:=zh Hcall2;rw[show((z1c [] 0:Nat):Int)=2 from rfl] at Hcall2;clear hcell hoke e1;generalize sa ks k=y at*;obtain⟨S,hS⟩:∃S,S=3+y.size:=⟨_,rfl⟩
    obtain⟨S5,hS5⟩:∃S5,S5=5+y.size:=⟨_,rfl⟩
    rw[←hS] at Htk;rw[←hS5] at Hcall;have z1:IntKind.i64.wrap ((S5:Int)-2)=(S:Int):=by rw[IntKind.wrap_i64];omega
    clear hS hS5;go_wp2_with fail;refine Hcall.out.mono ?_;rintro e w' ⟨rfl,rfl⟩;clear Hcall;go_wp2_with fail;refine(Hcall2.out _).mono ?_;rintro e w' ⟨rfl,rfl⟩;clear Hcall2
    go_wp2_with (at_builtin;refine z2g rfl (.tmp 38) (.tmp 44) 76 rfl w.heap.size 3 Tryz.underlying76 z81 _ ((ksI ks).take k) (by rfl) ((hown.out.alloc _).alloc _) (wr.heap.size+1) 1 (S:Int) (by rfl) (by simp) (by rw[Htl.out];omega) (by simp;omega) ?_;intro v' w2 hown2 hgrow2)
    have hb2:Hid (Below w.heap.size w w2):=((hB.out.alloc hsz _).alloc (by simp;omega) _).grown hgrow2.out (by simp;omega) (fun j hj=>(hown.out.lt j hj).1);have ho2:Hid (w2.ownsRow w.heap.size 3 1 v' ((ksI ks).take (k+1)).length (iv ((ksI ks).take (k+1)))):=by rw[Htk.out];exact hown2
    clear hown2 hgrow2 hown hB;go_wp2
    go_roundw
    case rel=>exact⟨k+1,v',by go_num,rfl,by omega,ho2,hb2⟩
    case measure=>simp[intOf];omega
   ·obtain rfl:k=n:=by omega
    have ho:=hown.out;rw[List.take_of_length_le (by rw[z4v,Hn.out];exact zlr _)] at ho;have hcl:=zh (z4n ho);clear ho hown;go_wp2;go_ret;exact⟨_,rfl,hcl.out,hB.out⟩
theorem q4w {es:List En}(h:∀x∈es,okE x):okTo (szI es) es.length:=fun i hi=>by
 rw[x3l es i hi,z3i];have:=z6h (h _ (z4e hi));omega
theorem q4x {ks:List ByteArray}(h:∀x∈ks,okK x=true):okTo (ksI ks) ks.length:=fun i hi=>by
 rw[x3m ks i hi,z3i];have h1:sa ks i∈ks:=by unfold sa;rw[List.getD_eq_getElem?_getD,List.getElem?_eq_getElem hi];exact List.getElem_mem _
 have:=z1a (h _ h1);omega
set_option maxRecDepth 100000 in
theorem y83 (b m n:Nat)(l:List Int)(w:World)(hn:l.length=n)(hl:n≤1000000)(hok:okTo l n)(hm:m≤100)
  (h1:∀w',Below w.heap.size w w'→Calls Tryz.prog 147 #[pt b] w' fun e w''=>e=.returned (.int .i64 m)∧w'=w'')
  (h2:∀w',Below w.heap.size w w'→Calls Tryz.prog 146 #[pt b] w' fun e w''=>∃v,e=.returned v∧PgV w'' v l∧Below w'.heap.size w' w''):
  Calls Tryz.prog 144 #[pt b] w fun e w'=>e=.returned (.int .i64 ((m:Int)+pf l n))∧Below w.heap.size w w':=by
 have H1:=zh (h1 w (zbr _ _));have H2:=zh (h2 w (zbr _ _));have Hok:=zh hok;have Hn:=zh hn;clear h1 h2 hok hn
 go_enter Tryz.func144,Tryz.ntmps144
 go_wp2_with fail;refine H1.out.mono ?_;rintro e w' ⟨rfl,rfl⟩;clear H1;go_wp2_with fail;refine H2.out.mono ?_;rintro e w1 ⟨v,rfl,⟨a,c,rfl,hs,_⟩,hb⟩;have Hs:=zh hs;have Hb:=zh hb;rw[Hn.out];clear hs hb H2;go_wp2_with fail
 go_loopw [3,5,11] (fun s _ i wr=>∃k t:Nat,s=.int .i64 t∧i=.int .i64 k∧k≤n∧t≤m+1024*k∧Hid ((t:Int)=(m:Int)+pf l k)∧w1=wr) (fun _ _ i _=>n-(intOf i).toNat)
 case atStart=>exact⟨0,m,rfl,rfl,by omega,by omega,by show _=_;rw[z5o];omega,by first|trivial|rfl⟩
 case round=>
  obtain⟨k,t,rfl,rfl,hk,ht,hts,rfl⟩:=hrel
  by_cases hlt:k<n
  ·obtain⟨g,o,rfl,hcell⟩:=Hs.out (by rw[Hn.out];omega);have q0:=hcell k (by rw[Hn.out];exact hlt);have h1:=(z3i _).1 (Hok.out k hlt);have h5:Hid ((t:Int)+ia l k=(m:Int)+pf l (k+1)):=by show _=_;rw[z68,hts.out];omega
   obtain⟨x,hx⟩:=Int.eq_ofNat_of_zero_le h1.1;rw[hx] at q0 h1 h5;have h6:x≤1024:=by omega
   clear hcell hts hx h1;go_wp2
   go_roundw
   case rel=>exact⟨k+1,t+x,by go_num,by go_num,by omega,by omega,by show _=_;rw[←h5.out];omega,by first|trivial|rfl⟩
   case measure=>simp[intOf];omega
  ·obtain rfl:k=n:=by omega
   go_wp2;go_ret;exact⟨by rw[←hts.out];rfl,Hb.out⟩
theorem y40 (b:Nat)(es:List En)(w:World)(hb:Leaf w b es)(hl:es.length≤1000000)(hok:∀x∈es,okE x):Calls Tryz.prog 144 #[pt b] w fun e w'=>e=.returned (.int .i64 (z0s es:Nat))∧Below w.heap.size w w':=by
 have hv:=z6a (show es.length<18446744073709551616 by omega);refine(y83 b (vs es.length) es.length (szI es) w (z4u es) hl (q4w hok) (by omega) (fun w' hw=>z72 b es w' (hb.ext hw) hl) (fun w' hw=>y04 b es w' (hb.ext hw) hl hok)).mono ?_;rintro e w' ⟨rfl,h⟩;refine⟨?_,h⟩;rw[y8o,List.take_of_length_le (zlr _)];unfold z0s;rw[show((vs es.length+szs es:Nat):Int)=(vs es.length:Int)+(szs es:Int) by omega]
theorem y41 (b:Nat)(ks:List ByteArray)(ps:List Nat)(w:World)(hb:Bran w b ks ps)(hp:0<ps.length)(hl:ks.length≤1000000)(hok:∀x∈ks,okK x=true):Calls Tryz.prog 144 #[pt b] w fun e w'=>e=.returned (.int .i64 (brSz ks:Nat))∧Below w.heap.size w w':=by
 refine(y83 b 2 ks.length (ksI ks) w (z4v ks) hl (q4x hok) (by omega) (fun w' hw=>z73 b ks ps w' (hb.ext hw) hp) (fun w' hw=>y05 b ks ps w' (hb.ext hw) hl hok)).mono ?_;rintro e w' ⟨rfl,h⟩;refine⟨?_,h⟩;rw[y8p,List.take_of_length_le (zlr _)];unfold brSz;rw[show((2+kss ks:Nat):Int)=((2:Nat):Int)+(kss ks:Int) by omega]
theorem z3x {h:Nat}{lo hi:SB}{b:Nat}{es:List En}{s:Nat}(w:World)(hn:Nd w h lo hi b es s)(hs:s≤100000):Calls Tryz.prog 144 #[pt b] w fun e w'=>e=.returned (.int .i64 (s:Nat))∧Below w.heap.size w w':=by
 cases h with
 | zero=>
  obtain⟨h1,_,_,h4,rfl⟩:=hn;have hok:=fun x hx=>(h4 x hx).1
  have h5:=z1i hok;exact y40 b es w h1 (by unfold z0s at hs;omega) hok
 | succ h=>
  obtain⟨ks,ps,ess,h1,h2,_,rfl⟩:=hn;have hok:=(h2.facts Good.facts).2.2.2;have h5:=z0u hok;exact y41 b ks ps w h1 (by have:=h2.len;omega) (by unfold brSz at hs;omega) hok
theorem z0r (W:World)(vc vk vp:Value):∃g W',W.heap.size=g∧W.alloc (.cells #[.int .i64 0,vc,vk,vp] NT)=W'∧NP W' g 0 vc vk vp∧Below W.heap.size W W':=
 ⟨_,_,rfl,rfl,NP.new W 0 vc vk vp,(zbr _ _).alloc (zlr _) _⟩
theorem z1v (W:World)(T:TypeId)(vs:Array Value):∃g W',W.heap.size=g∧W.alloc (.cells vs T)=W'∧(∀i:Nat,W'.cell? ⟨g,i,none⟩=vs[i]?)∧Below W.heap.size W W':=
 ⟨_,_,rfl,rfl,fun i=>World.cell?_alloc_new W _ _ i,(zbr _ _).alloc (zlr _) _⟩
set_option maxRecDepth 100000 in
theorem y64 (b1 b2:Nat)(key:ByteArray)(e1 e2:List En)(w:World)(h1:Leaf w b1 e1)(h2:Leaf w b2 e2)(hl:e1.length+e2.length≤1000000):
  Calls Tryz.prog 149 #[pt b1,.string key,pt b2] w fun e w'=>∃b,e=.returned (pt b)∧y0b w' b 0 (e1++e2)∧Below w.heap.size w w':=by
 obtain⟨vc1,nb1,cv1⟩:=h1;obtain⟨x1,⟨a1,c1,rfl,s1,z1,_⟩,r1⟩:=cv1.raw;obtain⟨vc2,nb2,cv2⟩:=h2;obtain⟨x2,⟨a2,c2,rfl,s2,z2,_⟩,r2⟩:=cv2.raw;rw[←r1.len,←r2.len] at hl;have hi:=zh (z3v b1 _ _ w nb1);obtain⟨W,hW⟩:∃W,w.drew=W:=⟨_,rfl⟩
 have hbw:Below w.heap.size w W:=by rw[←hW];exact(zbr _ _).drew
 have q0:∀w',Ext W w'→w'.cell? ⟨b1,1,none⟩=some (.slice a1 x1.length c1):=fun w' hw=>((nb1.ext (hbw)).ext hw).c1
 have q1:∀w',Ext W w'→w'.cell? ⟨b2,1,none⟩=some (.slice a2 x2.length c2):=fun w' hw=>((nb2.ext (hbw)).ext hw).c1
 obtain⟨g3,W3,hg3,hW3,hc3,hb3⟩:=z1v W 79 #[.slice a1 x1.length c1,.slice a2 x2.length c2];have hb03:Below w.heap.size w W3:=hbw.trans (hb3.mono hbw.size);have hp:z3d celE W3 g3 [x1,x2]:=fun i hi=>by
  rcases i with _|_|i
  ·exact⟨a1,c1,hc3 0,s1.below hb03 (zlr _),z1⟩
  ·exact⟨a2,c2,hc3 1,s2.below hb03 (zlr _),z2⟩
  ·exact absurd hi (by simp)
 have hcat:=y6z g3 2 2 [x1,x2] rfl W3 hp (by simp;omega) (by omega);rw[show[x1,x2].flatten=x1++x2 by simp] at hcat;have Hcat:=zh hcat;have HR:=zh (zai r1 r2);have Hb03:=zh hb03;have Hb3:=zh hb3;have HW:=zh hW;have HW3:=zh (zai hg3 hW3);clear r1 r2 cv1 cv2 hcat hb03 hp hc3 s1 s2 z1 z2 nb1 nb2 hW hg3 hW3 hb3 hbw;generalize x1.length=n1 at*;generalize x2.length=n2 at*
 go_enter Tryz.func149,Tryz.ntmps149
 go_wp2_with fail;refine hi.out.mono ?_;rintro e w' ⟨rfl,rfl⟩;go_wp2_with fail;refine z0n [(0,true),(1,true),(2,true),(3,true),(4,true),(5,true),(6,true),(7,true),(8,false),(9,false),(10,true),(11,false),(12,true)] (by kernel_rfl) (by kernel_rfl) (by kernel_rfl) (by kernel_rfl) (fun _ _ _ _ _ h=>h) ?_;rw[HW.out];iterate 8 (refine grr (v:= ?_) rfl (by rfl) ?_ ?_;rotate_left;(intro w' hw';go_simp;with_reducible rfl);simp only[Act.put,zs0,zs1,zs2])
 refine grc rfl (by rfl) (fun K hK=> ?_);go_simp;rw[HW3.out.1,HW3.out.2];refine hK _ _ Hb3.out ?_;clear hK K;refine grc rfl (by rfl) (fun K hK=> ?_);go_simp;refine Hcat.out.mono ?_;rintro e w4 ⟨v,rfl,⟨a4,c4,rfl,s4,r4⟩,hb4⟩;refine hK _ _ hb4 ?_;clear hK K;have Hb4:=zh (Hb03.out.trans (hb4.mono Hb03.out.size));have Hv:=zh (zai s4 r4);obtain⟨N,hN⟩:∃N,(x1++x2).length=N:=⟨_,rfl⟩
 have HN:=zh hN;rw[hN];clear s4 r4 hb4 hN
 (refine grr (v:= ?_) rfl (by rfl) ?_ ?_;rotate_left;(intro w' hw';go_simp;with_reducible rfl);simp only[Act.put,zs0,zs1,zs2])
 obtain⟨g5,W5,hg5,hW5,hnb5,hb5⟩:=z0r w4 (.slice a4 N c4) nilS nilS;have Hnb:=zh hnb5;have Hb5:=zh hb5;have HW5:=zh (zai hg5 hW5);clear hnb5 hb5 hg5 hW5;refine grc rfl (by rfl) (fun K hK=> ?_);go_simp;rw[HW5.out.1,HW5.out.2];refine hK _ _ Hb5.out ?_;clear hK K
 (refine grr (v:= ?_) rfl (by rfl) ?_ ?_;rotate_left;(intro w' hw';go_simp;with_reducible rfl);simp only[Act.put,zs0,zs1,zs2])
 refine z07 ?_;go_wp2_with fail;go_ret;exact⟨g5,rfl,⟨_,Hnb.out,q6n ⟨a4,c4,by rw[HN.out],Hv.out.1.below Hb5.out (zlr _),Hv.out.2⟩ ((HR.out.1.app HR.out.2).below (Hb4.out.trans (Hb5.out.mono Hb4.out.size)) (zlr _))⟩,Hb4.out.trans (Hb5.out.mono Hb4.out.size)⟩
set_option maxRecDepth 100000 in
theorem y65 (b1 b2:Nat)(key:ByteArray)(ks1 ks2:List ByteArray)(ps1 ps2:List Nat)(w:World)(h1:Bran w b1 ks1 ps1)(h2:Bran w b2 ks2 ps2)(h0:0<ps1.length)(hl:ks1.length+ks2.length≤100000)(hl2:ps1.length+ps2.length≤100000):
  Calls Tryz.prog 149 #[pt b1,.string key,pt b2] w fun e w'=>∃b,e=.returned (pt b)∧z5g w' b 0 (ks1++key::ks2) (ps1++ps2)∧Below w.heap.size w w':=by
 obtain⟨vk1,vp1,nb1,⟨a1,c1,rfl,s1,z1,_⟩,⟨a2,c2,rfl,s2,z2,_⟩⟩:=h1;obtain⟨vk2,vp2,nb2,⟨a3,c3,rfl,s3,z3,_⟩,⟨a4,c4,rfl,s4,z4,_⟩⟩:=h2;have hi:=zh (z3w b1 _ _ _ _ _ w nb1 h0);obtain⟨W,hW⟩:∃W,w.drew=W:=⟨_,rfl⟩
 have HB:Hid (Below w.heap.size w W):=by rw[←hW];exact(zbr _ _).drew
 have q1:∀w',Turn (fun _=>False) W w'→w'.cell? ⟨b1,2,none⟩=some (.slice a1 ks1.length c1):=fun w' t=>((nb1.ext HB.out).ext (t.below (zlr _) (fun _ h=>h.elim))).c2
 have q2:∀w',Turn (fun _=>False) W w'→w'.cell? ⟨b1,3,none⟩=some (.slice a2 ps1.length c2):=fun w' t=>((nb1.ext HB.out).ext (t.below (zlr _) (fun _ h=>h.elim))).c3
 have q3:∀w',Turn (fun _=>False) W w'→w'.cell? ⟨b2,2,none⟩=some (.slice a3 ks2.length c3):=fun w' t=>((nb2.ext HB.out).ext (t.below (zlr _) (fun _ h=>h.elim))).c2
 have q4:∀w',Turn (fun _=>False) W w'→w'.cell? ⟨b2,3,none⟩=some (.slice a4 ps2.length c4):=fun w' t=>((nb2.ext HB.out).ext (t.below (zlr _) (fun _ h=>h.elim))).c3
 have S1:=zh s1;have S2:=zh s2;have S3:=zh s3;have S4:=zh s4;have Z:=zh (zai (zai z1 z2) (zai z3 z4));have HW:=zh hW;obtain⟨N,hN⟩:∃N,(ks1++key::ks2).length=N:=⟨_,rfl⟩
 obtain⟨M,hM⟩:∃M,(ps1++ps2).length=M:=⟨_,rfl⟩
 have HN:=zh (zai hN hM);obtain⟨n1,hn1⟩:∃n,ks1.length=n:=⟨_,rfl⟩
 obtain⟨n2,hn2⟩:∃n,ps1.length=n:=⟨_,rfl⟩
 obtain⟨n3,hn3⟩:∃n,ks2.length=n:=⟨_,rfl⟩
 obtain⟨n4,hn4⟩:∃n,ps2.length=n:=⟨_,rfl⟩
 have Hn:=zh (zai (zai hn1 hn2) (zai hn3 hn4));rw[hn1] at q1;rw[hn2] at q2;rw[hn3] at q3;rw[hn4] at q4;have Hl:Hid (ks1.length+ks2.length≤100000∧ps1.length+ps2.length≤100000):=⟨hl,hl2⟩
 clear s1 s2 s3 s4 z1 z2 z3 z4 nb1 nb2 hW hN hM hn1 hn2 hn3 hn4 h0 hl hl2
 go_enter Tryz.func149,Tryz.ntmps149
 go_wp2_with fail;refine hi.out.mono ?_;rintro e w' ⟨rfl,rfl⟩;clear hi;go_wp2_with fail;refine z0l (F:=fun _=>False) (.rd 0 (.rd 1 (.rd 2 (.rd 3 (.rd 4 (.rd 6 (.rd 7 (.rd 8 (.rd 9 (.rd 12 (.rd 13 (.rd 14 (.rd 15 (.rd 16 (.rd 17 (.rd 18 (.rd 19 (.two 5 (.two 10 (.two 11 (.call 20 (.call 21 (.rd 22 (.call 23 (.rd 24 .done))))) 20 (.call 11 (.call 21 (.rd 22 (.call 23 (.rd 24 .done)))))) 20 (.call 10 (.call 11 (.call 21 (.rd 22 (.call 23 (.rd 24 .done))))))) 20 (.call 5 (.call 10 (.call 11 (.call 21 (.rd 22 (.call 23 (.rd 24 .done))))))))))))))))))))))))) (by kernel_rfl) (by kernel_rfl) (by kernel_rfl) (by kernel_rfl) (fun _ _ _ _ _ h=>h) ?_;rw[HW.out];iterate 17 (refine gsr (v:= ?_) rfl (by rfl) ?_ ?_;rotate_left;(intro w' hw';go_simp;with_reducible rfl);simp only[Act.put,zs0,zs1,zs2])
 clear q1 q2 q3 q4 HW;refine⟨?_,?_⟩
 ·obtain⟨gA,WA,hgA,hwA,hcA,hbA⟩:=z0t W 9 #[.string key];have HGA:=zh (zai hgA hwA);have HbA:=zh hbA;have HcA:=zh hcA;clear hgA hwA hcA hbA;replace HB:=zh (HB.out.trans (HbA.out.mono HB.out.size));have FA:Hid (ES strE WA (some ⟨gA,0,none⟩) [key]):=ES.lit (E:=strE) (l:=[key]) HcA.out;refine gsc rfl (by rfl) (fun K hK=> ?_);go_simp;rw[HGA.out.1,HGA.out.2];refine hK _ _ (q5w HbA.out) ?_;clear hK K HGA HbA HcA;refine⟨?_,?_⟩
  ·obtain⟨gB,WB,hgB,hwB,hcB,hbB⟩:=z1v WA 80 #[.slice a1 n1 c1,.slice (some ⟨gA,0,none⟩) 1 1,.slice a3 n3 c3];have HGB:=zh (zai hgB hwB);have HbB:=zh hbB;have HcB:=zh hcB;clear hgB hwB hcB hbB;replace FA:=zh (FA.out.below HbB.out (zlr _));replace HB:=zh (HB.out.trans (HbB.out.mono HB.out.size));have FB:Hid (z3d strE WB gB [ks1,[key],ks2]):=fun i hi=>by
    rcases i with _|_|_|i
    ·exact⟨a1,c1,by rw[HcB.out];show some (Value.slice a1 n1 c1)=some (Value.slice a1 ks1.length c1);rw[Hn.out.1.1],S1.out.below HB.out (zlr _),Z.out.1.1⟩
    ·exact⟨some ⟨gA,0,none⟩,1,by rw[HcB.out];rfl,FA.out,fun h=>by cases h⟩
    ·exact⟨a3,c3,by rw[HcB.out];show some (Value.slice a3 n3 c3)=some (Value.slice a3 ks2.length c3);rw[Hn.out.2.1],S3.out.below HB.out (zlr _),Z.out.2.1⟩
    ·exact absurd hi (by simp)
   refine gsc rfl (by rfl) (fun K hK=> ?_);go_simp;rw[HGB.out.1,HGB.out.2];refine hK _ _ (q5w HbB.out) ?_;clear hK K HGB HbB HcB;refine⟨?_,?_⟩
   ·have hcat:=z36 gB 3 3 [ks1,[key],ks2] rfl WB FB.out (by have:=Hl.out;simp;omega) (by omega);rw[show[ks1,[key],ks2].flatten=ks1++key::ks2 by simp] at hcat;have Hcat:=zh hcat;clear hcat;refine gsc rfl (by rfl) (fun K hK=> ?_);go_simp;refine Hcat.out.mono ?_;rintro e WC ⟨v,rfl,⟨xC,yC,rfl,sC,rC⟩,hbC⟩;refine hK _ _ (q5w hbC) ?_;clear hK K Hcat;rw[HN.out.1] at rC⊢
    have HbC:=zh hbC;have FC:=zh sC;have RC:=zh rC;clear hbC sC rC;replace FA:=zh (FA.out.below HbC.out (zlr _));replace HB:=zh (HB.out.trans (HbC.out.mono HB.out.size));clear HbC FB;obtain⟨gD,WD,hgD,hwD,hcD,hbD⟩:=z1v WC 81 #[.slice a2 n2 c2,.slice a4 n4 c4];have HGD:=zh (zai hgD hwD);have HbD:=zh hbD;have HcD:=zh hcD;clear hgD hwD hcD hbD;replace FA:=zh (FA.out.below HbD.out (zlr _));replace FC:=zh (FC.out.below HbD.out (zlr _));replace HB:=zh (HB.out.trans (HbD.out.mono HB.out.size));have FD:Hid (z3d ptrE WD gD [ps1,ps2]):=fun i hi=>by
     rcases i with _|_|i
     ·exact⟨a2,c2,by rw[HcD.out];show some (Value.slice a2 n2 c2)=some (Value.slice a2 ps1.length c2);rw[Hn.out.1.2],S2.out.below HB.out (zlr _),Z.out.1.2⟩
     ·exact⟨a4,c4,by rw[HcD.out];show some (Value.slice a4 n4 c4)=some (Value.slice a4 ps2.length c4);rw[Hn.out.2.2],S4.out.below HB.out (zlr _),Z.out.2.2⟩
     ·exact absurd hi (by simp)
    refine gsc rfl (by rfl) (fun K hK=> ?_);go_simp;rw[HGD.out.1,HGD.out.2];refine hK _ _ (q5w HbD.out) ?_;clear hK K HGD HbD HcD;have hcat:=z35 gD 2 2 [ps1,ps2] rfl WD FD.out (by have:=Hl.out;simp;omega) (by omega);rw[show[ps1,ps2].flatten=ps1++ps2 by simp] at hcat;have Hcat:=zh hcat;clear hcat;refine gsc rfl (by rfl) (fun K hK=> ?_);go_simp;refine Hcat.out.mono ?_;rintro e WE ⟨v,rfl,⟨xE,yE,rfl,sE,rE⟩,hbE⟩;refine hK _ _ (q5w hbE) ?_;clear hK K Hcat;rw[HN.out.2] at rE⊢
    have HbE:=zh hbE;have FE:=zh sE;have RE:=zh rE;clear hbE sE rE;replace FA:=zh (FA.out.below HbE.out (zlr _));replace FC:=zh (FC.out.below HbE.out (zlr _));replace HB:=zh (HB.out.trans (HbE.out.mono HB.out.size));clear HbE FD
    (refine gsr (v:= ?_) rfl (by rfl) ?_ ?_;rotate_left;(intro w' hw';go_simp;with_reducible rfl);simp only[Act.put,zs0,zs1,zs2])
    obtain⟨gN,WN,hgN,hwN,hnb,hbN⟩:=z0r WE nilS (.slice xC N yC) (.slice xE M yE);have HGN:=zh (zai hgN hwN);have HbN:=zh hbN;have Hnb:=zh hnb;clear hgN hwN hbN hnb;replace FA:=zh (FA.out.below HbN.out (zlr _));replace FC:=zh (FC.out.below HbN.out (zlr _));replace FE:=zh (FE.out.below HbN.out (zlr _));replace HB:=zh (HB.out.trans (HbN.out.mono HB.out.size));refine gsc rfl (by rfl) (fun K hK=> ?_);go_simp;rw[HGN.out.1,HGN.out.2];refine hK _ _ (q5w HbN.out) ?_;clear hK K HGN HbN
    (refine gsr (v:= ?_) rfl (by rfl) ?_ ?_;rotate_left;(intro w' hw';go_simp;with_reducible rfl);simp only[Act.put,zs0,zs1,zs2])
    refine z0a ?_;go_wp2_with fail;go_ret;exact⟨gN,rfl,⟨_,_,Hnb.out,⟨xC,yC,by rw[HN.out.1],FC.out,by rw[HN.out.1];exact RC.out⟩,⟨xE,yE,by rw[HN.out.2],FE.out,by rw[HN.out.2];exact RE.out⟩⟩,HB.out⟩
   ·obtain⟨gD,WD,hgD,hwD,hcD,hbD⟩:=z1v WB 81 #[.slice a2 n2 c2,.slice a4 n4 c4];have HGD:=zh (zai hgD hwD);have HbD:=zh hbD;have HcD:=zh hcD;clear hgD hwD hcD hbD;replace FA:=zh (FA.out.below HbD.out (zlr _));replace FB:=zh (FB.out.below HbD.out (zlr _));replace HB:=zh (HB.out.trans (HbD.out.mono HB.out.size));have FD:Hid (z3d ptrE WD gD [ps1,ps2]):=fun i hi=>by
     rcases i with _|_|i
     ·exact⟨a2,c2,by rw[HcD.out];show some (Value.slice a2 n2 c2)=some (Value.slice a2 ps1.length c2);rw[Hn.out.1.2],S2.out.below HB.out (zlr _),Z.out.1.2⟩
     ·exact⟨a4,c4,by rw[HcD.out];show some (Value.slice a4 n4 c4)=some (Value.slice a4 ps2.length c4);rw[Hn.out.2.2],S4.out.below HB.out (zlr _),Z.out.2.2⟩
     ·exact absurd hi (by simp)
    refine gsc rfl (by rfl) (fun K hK=> ?_);go_simp;rw[HGD.out.1,HGD.out.2];refine hK _ _ (q5w HbD.out) ?_;clear hK K HGD HbD HcD;have hcat:=z36 gB 3 3 [ks1,[key],ks2] rfl WD FB.out (by have:=Hl.out;simp;omega) (by omega);rw[show[ks1,[key],ks2].flatten=ks1++key::ks2 by simp] at hcat;have Hcat:=zh hcat;clear hcat;refine gsc rfl (by rfl) (fun K hK=> ?_);go_simp;refine Hcat.out.mono ?_;rintro e WC ⟨v,rfl,⟨xC,yC,rfl,sC,rC⟩,hbC⟩;refine hK _ _ (q5w hbC) ?_;clear hK K Hcat;rw[HN.out.1] at rC⊢
    have HbC:=zh hbC;have FC:=zh sC;have RC:=zh rC;clear hbC sC rC;replace FA:=zh (FA.out.below HbC.out (zlr _));replace FD:=zh (FD.out.below HbC.out (zlr _));replace HB:=zh (HB.out.trans (HbC.out.mono HB.out.size));clear HbC FB;have hcat:=z35 gD 2 2 [ps1,ps2] rfl WC FD.out (by have:=Hl.out;simp;omega) (by omega);rw[show[ps1,ps2].flatten=ps1++ps2 by simp] at hcat;have Hcat:=zh hcat;clear hcat;refine gsc rfl (by rfl) (fun K hK=> ?_);go_simp;refine Hcat.out.mono ?_;rintro e WE ⟨v,rfl,⟨xE,yE,rfl,sE,rE⟩,hbE⟩;refine hK _ _ (q5w hbE) ?_;clear hK K Hcat;rw[HN.out.2] at rE⊢
    have HbE:=zh hbE;have FE:=zh sE;have RE:=zh rE;clear hbE sE rE;replace FA:=zh (FA.out.below HbE.out (zlr _));replace FC:=zh (FC.out.below HbE.out (zlr _));replace HB:=zh (HB.out.trans (HbE.out.mono HB.out.size));clear HbE FD
    (refine gsr (v:= ?_) rfl (by rfl) ?_ ?_;rotate_left;(intro w' hw';go_simp;with_reducible rfl);simp only[Act.put,zs0,zs1,zs2])
    obtain⟨gN,WN,hgN,hwN,hnb,hbN⟩:=z0r WE nilS (.slice xC N yC) (.slice xE M yE);have HGN:=zh (zai hgN hwN);have HbN:=zh hbN;have Hnb:=zh hnb;clear hgN hwN hbN hnb;replace FA:=zh (FA.out.below HbN.out (zlr _));replace FC:=zh (FC.out.below HbN.out (zlr _));replace FE:=zh (FE.out.below HbN.out (zlr _));replace HB:=zh (HB.out.trans (HbN.out.mono HB.out.size));refine gsc rfl (by rfl) (fun K hK=> ?_);go_simp;rw[HGN.out.1,HGN.out.2];refine hK _ _ (q5w HbN.out) ?_;clear hK K HGN HbN
    (refine gsr (v:= ?_) rfl (by rfl) ?_ ?_;rotate_left;(intro w' hw';go_simp;with_reducible rfl);simp only[Act.put,zs0,zs1,zs2])
    refine z0a ?_;go_wp2_with fail;go_ret;exact⟨gN,rfl,⟨_,_,Hnb.out,⟨xC,yC,by rw[HN.out.1],FC.out,by rw[HN.out.1];exact RC.out⟩,⟨xE,yE,by rw[HN.out.2],FE.out,by rw[HN.out.2];exact RE.out⟩⟩,HB.out⟩
  ·obtain⟨gD,WD,hgD,hwD,hcD,hbD⟩:=z1v WA 81 #[.slice a2 n2 c2,.slice a4 n4 c4];have HGD:=zh (zai hgD hwD);have HbD:=zh hbD;have HcD:=zh hcD;clear hgD hwD hcD hbD;replace FA:=zh (FA.out.below HbD.out (zlr _));replace HB:=zh (HB.out.trans (HbD.out.mono HB.out.size));have FD:Hid (z3d ptrE WD gD [ps1,ps2]):=fun i hi=>by
    rcases i with _|_|i
    ·exact⟨a2,c2,by rw[HcD.out];show some (Value.slice a2 n2 c2)=some (Value.slice a2 ps1.length c2);rw[Hn.out.1.2],S2.out.below HB.out (zlr _),Z.out.1.2⟩
    ·exact⟨a4,c4,by rw[HcD.out];show some (Value.slice a4 n4 c4)=some (Value.slice a4 ps2.length c4);rw[Hn.out.2.2],S4.out.below HB.out (zlr _),Z.out.2.2⟩
    ·exact absurd hi (by simp)
   refine gsc rfl (by rfl) (fun K hK=> ?_);go_simp;rw[HGD.out.1,HGD.out.2];refine hK _ _ (q5w HbD.out) ?_;clear hK K HGD HbD HcD;obtain⟨gB,WB,hgB,hwB,hcB,hbB⟩:=z1v WD 80 #[.slice a1 n1 c1,.slice (some ⟨gA,0,none⟩) 1 1,.slice a3 n3 c3];have HGB:=zh (zai hgB hwB);have HbB:=zh hbB;have HcB:=zh hcB;clear hgB hwB hcB hbB;replace FA:=zh (FA.out.below HbB.out (zlr _));replace FD:=zh (FD.out.below HbB.out (zlr _));replace HB:=zh (HB.out.trans (HbB.out.mono HB.out.size));have FB:Hid (z3d strE WB gB [ks1,[key],ks2]):=fun i hi=>by
    rcases i with _|_|_|i
    ·exact⟨a1,c1,by rw[HcB.out];show some (Value.slice a1 n1 c1)=some (Value.slice a1 ks1.length c1);rw[Hn.out.1.1],S1.out.below HB.out (zlr _),Z.out.1.1⟩
    ·exact⟨some ⟨gA,0,none⟩,1,by rw[HcB.out];rfl,FA.out,fun h=>by cases h⟩
    ·exact⟨a3,c3,by rw[HcB.out];show some (Value.slice a3 n3 c3)=some (Value.slice a3 ks2.length c3);rw[Hn.out.2.1],S3.out.below HB.out (zlr _),Z.out.2.1⟩
    ·exact absurd hi (by simp)
   refine gsc rfl (by rfl) (fun K hK=> ?_);go_simp;rw[HGB.out.1,HGB.out.2];refine hK _ _ (q5w HbB.out) ?_;clear hK K HGB HbB HcB;have hcat:=z36 gB 3 3 [ks1,[key],ks2] rfl WB FB.out (by have:=Hl.out;simp;omega) (by omega);rw[show[ks1,[key],ks2].flatten=ks1++key::ks2 by simp] at hcat;have Hcat:=zh hcat;clear hcat;refine gsc rfl (by rfl) (fun K hK=> ?_);go_simp;refine Hcat.out.mono ?_;rintro e WC ⟨v,rfl,⟨xC,yC,rfl,sC,rC⟩,hbC⟩;refine hK _ _ (q5w hbC) ?_;clear hK K Hcat;rw[HN.out.1] at rC⊢
   have HbC:=zh hbC;have FC:=zh sC;have RC:=zh rC;clear hbC sC rC;replace FA:=zh (FA.out.below HbC.out (zlr _));replace FD:=zh (FD.out.below HbC.out (zlr _));replace HB:=zh (HB.out.trans (HbC.out.mono HB.out.size));clear HbC FB;have hcat:=z35 gD 2 2 [ps1,ps2] rfl WC FD.out (by have:=Hl.out;simp;omega) (by omega);rw[show[ps1,ps2].flatten=ps1++ps2 by simp] at hcat;have Hcat:=zh hcat;clear hcat;refine gsc rfl (by rfl) (fun K hK=> ?_);go_simp;refine Hcat.out.mono ?_;rintro e WE ⟨v,rfl,⟨xE,yE,rfl,sE,rE⟩,hbE⟩;refine hK _ _ (q5w hbE) ?_;clear hK K Hcat;rw[HN.out.2] at rE⊢
   have HbE:=zh hbE;have FE:=zh sE;have RE:=zh rE;clear hbE sE rE;replace FA:=zh (FA.out.below HbE.out (zlr _));replace FC:=zh (FC.out.below HbE.out (zlr _));replace HB:=zh (HB.out.trans (HbE.out.mono HB.out.size));clear HbE FD
   (refine gsr (v:= ?_) rfl (by rfl) ?_ ?_;rotate_left;(intro w' hw';go_simp;with_reducible rfl);simp only[Act.put,zs0,zs1,zs2])
   obtain⟨gN,WN,hgN,hwN,hnb,hbN⟩:=z0r WE nilS (.slice xC N yC) (.slice xE M yE);have HGN:=zh (zai hgN hwN);have HbN:=zh hbN;have Hnb:=zh hnb;clear hgN hwN hbN hnb;replace FA:=zh (FA.out.below HbN.out (zlr _));replace FC:=zh (FC.out.below HbN.out (zlr _));replace FE:=zh (FE.out.below HbN.out (zlr _));replace HB:=zh (HB.out.trans (HbN.out.mono HB.out.size));refine gsc rfl (by rfl) (fun K hK=> ?_);go_simp;rw[HGN.out.1,HGN.out.2];refine hK _ _ (q5w HbN.out) ?_;clear hK K HGN HbN
   (refine gsr (v:= ?_) rfl (by rfl) ?_ ?_;rotate_left;(intro w' hw';go_simp;with_reducible rfl);simp only[Act.put,zs0,zs1,zs2])
   refine z0a ?_;go_wp2_with fail;go_ret;exact⟨gN,rfl,⟨_,_,Hnb.out,⟨xC,yC,by rw[HN.out.1],FC.out,by rw[HN.out.1];exact RC.out⟩,⟨xE,yE,by rw[HN.out.2],FE.out,by rw[HN.out.2];exact RE.out⟩⟩,HB.out⟩
 ·obtain⟨gD,WD,hgD,hwD,hcD,hbD⟩:=z1v W 81 #[.slice a2 n2 c2,.slice a4 n4 c4];have HGD:=zh (zai hgD hwD);have HbD:=zh hbD;have HcD:=zh hcD;clear hgD hwD hcD hbD;replace HB:=zh (HB.out.trans (HbD.out.mono HB.out.size));have FD:Hid (z3d ptrE WD gD [ps1,ps2]):=fun i hi=>by
   rcases i with _|_|i
   ·exact⟨a2,c2,by rw[HcD.out];show some (Value.slice a2 n2 c2)=some (Value.slice a2 ps1.length c2);rw[Hn.out.1.2],S2.out.below HB.out (zlr _),Z.out.1.2⟩
   ·exact⟨a4,c4,by rw[HcD.out];show some (Value.slice a4 n4 c4)=some (Value.slice a4 ps2.length c4);rw[Hn.out.2.2],S4.out.below HB.out (zlr _),Z.out.2.2⟩
   ·exact absurd hi (by simp)
  refine gsc rfl (by rfl) (fun K hK=> ?_);go_simp;rw[HGD.out.1,HGD.out.2];refine hK _ _ (q5w HbD.out) ?_;clear hK K HGD HbD HcD;obtain⟨gA,WA,hgA,hwA,hcA,hbA⟩:=z0t WD 9 #[.string key];have HGA:=zh (zai hgA hwA);have HbA:=zh hbA;have HcA:=zh hcA;clear hgA hwA hcA hbA;replace FD:=zh (FD.out.below HbA.out (zlr _));replace HB:=zh (HB.out.trans (HbA.out.mono HB.out.size));have FA:Hid (ES strE WA (some ⟨gA,0,none⟩) [key]):=ES.lit (E:=strE) (l:=[key]) HcA.out;refine gsc rfl (by rfl) (fun K hK=> ?_);go_simp;rw[HGA.out.1,HGA.out.2];refine hK _ _ (q5w HbA.out) ?_;clear hK K HGA HbA HcA;obtain⟨gB,WB,hgB,hwB,hcB,hbB⟩:=z1v WA 80 #[.slice a1 n1 c1,.slice (some ⟨gA,0,none⟩) 1 1,.slice a3 n3 c3];have HGB:=zh (zai hgB hwB);have HbB:=zh hbB;have HcB:=zh hcB;clear hgB hwB hcB hbB;replace FD:=zh (FD.out.below HbB.out (zlr _));replace FA:=zh (FA.out.below HbB.out (zlr _));replace HB:=zh (HB.out.trans (HbB.out.mono HB.out.size));have FB:Hid (z3d strE WB gB [ks1,[key],ks2]):=fun i hi=>by
   rcases i with _|_|_|i
   ·exact⟨a1,c1,by rw[HcB.out];show some (Value.slice a1 n1 c1)=some (Value.slice a1 ks1.length c1);rw[Hn.out.1.1],S1.out.below HB.out (zlr _),Z.out.1.1⟩
   ·exact⟨some ⟨gA,0,none⟩,1,by rw[HcB.out];rfl,FA.out,fun h=>by cases h⟩
   ·exact⟨a3,c3,by rw[HcB.out];show some (Value.slice a3 n3 c3)=some (Value.slice a3 ks2.length c3);rw[Hn.out.2.1],S3.out.below HB.out (zlr _),Z.out.2.1⟩
   ·exact absurd hi (by simp)
  refine gsc rfl (by rfl) (fun K hK=> ?_);go_simp;rw[HGB.out.1,HGB.out.2];refine hK _ _ (q5w HbB.out) ?_;clear hK K HGB HbB HcB;have hcat:=z36 gB 3 3 [ks1,[key],ks2] rfl WB FB.out (by have:=Hl.out;simp;omega) (by omega);rw[show[ks1,[key],ks2].flatten=ks1++key::ks2 by simp] at hcat;have Hcat:=zh hcat;clear hcat;refine gsc rfl (by rfl) (fun K hK=> ?_);go_simp;refine Hcat.out.mono ?_;rintro e WC ⟨v,rfl,⟨xC,yC,rfl,sC,rC⟩,hbC⟩;refine hK _ _ (q5w hbC) ?_;clear hK K Hcat;rw[HN.out.1] at rC⊢
  have HbC:=zh hbC;have FC:=zh sC;have RC:=zh rC;clear hbC sC rC;replace FD:=zh (FD.out.below HbC.out (zlr _));replace FA:=zh (FA.out.below HbC.out (zlr _));replace HB:=zh (HB.out.trans (HbC.out.mono HB.out.size));clear HbC FB;have hcat:=z35 gD 2 2 [ps1,ps2] rfl WC FD.out (by have:=Hl.out;simp;omega) (by omega);rw[show[ps1,ps2].flatten=ps1++ps2 by simp] at hcat;have Hcat:=zh hcat;clear hcat;refine gsc rfl (by rfl) (fun K hK=> ?_);go_simp;refine Hcat.out.mono ?_;rintro e WE ⟨v,rfl,⟨xE,yE,rfl,sE,rE⟩,hbE⟩;refine hK _ _ (q5w hbE) ?_;clear hK K Hcat;rw[HN.out.2] at rE⊢
  have HbE:=zh hbE;have FE:=zh sE;have RE:=zh rE;clear hbE sE rE;replace FA:=zh (FA.out.below HbE.out (zlr _));replace FC:=zh (FC.out.below HbE.out (zlr _));replace HB:=zh (HB.out.trans (HbE.out.mono HB.out.size));clear HbE FD
  (refine gsr (v:= ?_) rfl (by rfl) ?_ ?_;rotate_left;(intro w' hw';go_simp;with_reducible rfl);simp only[Act.put,zs0,zs1,zs2])
  obtain⟨gN,WN,hgN,hwN,hnb,hbN⟩:=z0r WE nilS (.slice xC N yC) (.slice xE M yE);have HGN:=zh (zai hgN hwN);have HbN:=zh hbN;have Hnb:=zh hnb;clear hgN hwN hbN hnb;replace FA:=zh (FA.out.below HbN.out (zlr _));replace FC:=zh (FC.out.below HbN.out (zlr _));replace FE:=zh (FE.out.below HbN.out (zlr _));replace HB:=zh (HB.out.trans (HbN.out.mono HB.out.size));refine gsc rfl (by rfl) (fun K hK=> ?_);go_simp;rw[HGN.out.1,HGN.out.2];refine hK _ _ (q5w HbN.out) ?_;clear hK K HGN HbN
  (refine gsr (v:= ?_) rfl (by rfl) ?_ ?_;rotate_left;(intro w' hw';go_simp;with_reducible rfl);simp only[Act.put,zs0,zs1,zs2])
  refine z0a ?_;go_wp2_with fail;go_ret;exact⟨gN,rfl,⟨_,_,Hnb.out,⟨xC,yC,by rw[HN.out.1],FC.out,by rw[HN.out.1];exact RC.out⟩,⟨xE,yE,by rw[HN.out.2],FE.out,by rw[HN.out.2];exact RE.out⟩⟩,HB.out⟩
end Go.Proofs.YtdnfhjfbanhhcaaGreatDoor
