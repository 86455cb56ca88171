/-
  Steps.
-/
import Derived.Test.YtdnfhjfbanhhcaaGreatDoorProg
import Derived.Test.YtdnfhjfbanhhcaaGreatDoorQLBk15
namespace Go.Proofs.YtdnfhjfbanhhcaaGreatDoor
open Go Go.RowKit Go.Shelf
set_option maxRecDepth 100000 in
theorem x0u (w:World)(b1 b2 h:Nat)(a:Option Addr)(n c:Nat)(cs:List En)(key:ByteArray)(h1:w.cell? ⟨b1,0,none⟩=some (.slice a n c))(h2:w.cell? ⟨b2,0,none⟩=some (.string key))(hn:cs.length=n)(hs:CS w a cs)(hh:h<n):
  Calls Tryz.prog 95 #[.int .i64 h,.pointer (some ⟨b1,0,none⟩),.pointer (some ⟨b2,0,none⟩)] w fun e w'=>e=.returned (.bool (!blt (ea cs h).k key))∧Below w.heap.size w w':=by
 obtain⟨g,o,rfl,hcell⟩:=hs.ents (by omega);have hA:=(hcell h (by omega)).1;have lA:=block_lt_of_cell hA;have q0:∀w',Ext w.drew w'→w'.cell? ⟨g,o+h*3,none⟩=some (.string (ea cs h).k):=fun w' hw=>by
  rw[((zbr w.heap.size w).drew.trans hw).cell (p:=⟨g,o+h*3,none⟩) lA];exact hA
 have l1:=block_lt_of_cell h1;have l2:=block_lt_of_cell h2;have q1:∀w',Ext w.drew w'→w'.cell? ⟨b1,0,none⟩=some (.slice (some ⟨g,o,none⟩) n c):=fun w' hw=>by
  rw[((zbr w.heap.size w).drew.trans hw).cell (p:=⟨b1,0,none⟩) l1];exact h1
 have q2:∀w',Ext w.drew w'→w'.cell? ⟨b2,0,none⟩=some (.string key):=fun w' hw=>by
  rw[((zbr w.heap.size w).drew.trans hw).cell (p:=⟨b2,0,none⟩) l2];exact h2
 have hle:Op.bytesLess (ea cs h).k.toList key.toList=blt (ea cs h).k key:=rfl;generalize blt (ea cs h).k key=D at*;clear hcell hA lA hs h1 h2 hn
 go_enter Tryz.func95,Tryz.ntmps95
 go_wp2_with fail;refine z0n [(0,true),(1,true),(2,true),(3,true),(4,true),(5,true),(6,true),(7,true),(8,true)] (by kernel_rfl) (by kernel_rfl) (by kernel_rfl) (by kernel_rfl) (fun _ _ _ _ _ h=>h) ?_;iterate 9 (refine grr (v:= ?_) rfl (by rfl) ?_ ?_;rotate_left;(intro w' hw';go_simp;with_reducible rfl);simp only[Act.put,zs0,zs1,zs2])
 refine z07 ?_;go_wp2_with fail;go_ret;exact⟨rfl,(zbr _ _).drew⟩
set_option maxRecDepth 100000 in
theorem y60 (w:World)(b1 b2:Nat)(a:Option Addr)(n c:Nat)(cs:List En)(key:ByteArray)(h1:w.cell? ⟨b1,0,none⟩=some (.slice a n c))(h2:w.cell? ⟨b2,0,none⟩=some (.string key))(hn:cs.length=n)(hs:CS w a cs)(ha:srt cs)(hl:n≤65536):
  Calls Tryz.prog 93 #[.int .i64 n,.func (.func 95) #[] #[.pointer (some ⟨b1,0,none⟩),.pointer (some ⟨b2,0,none⟩)]] w fun e w'=>e=.returned (.int .i64 (fE cs key:Nat))∧Below w.heap.size w w':=by
 have eg:∀args w,(callFunc 95 args).run Tryz.prog w=.ok (.enter 95 args) w:=enters_of Tryz.func95 (by kernel_rfl) rfl;have hcall:∀(w':World) (h:Nat),h<n→Below w.heap.size w w'→Calls Tryz.prog 95 #[.int .i64 h,.pointer (some ⟨b1,0,none⟩),.pointer (some ⟨b2,0,none⟩)] w' fun e w''=>e=.returned (.bool (!blt (ea cs h).k key))∧Below w'.heap.size w' w'':=fun w' h hh hb=>
  x0u w' b1 b2 h a n c cs key (by rw[hb.cell (p:=⟨b1,0,none⟩) (block_lt_of_cell h1)];exact h1) (by rw[hb.cell (p:=⟨b2,0,none⟩) (block_lt_of_cell h2)];exact h2) hn (hs.below hb (zlr _)) hh
 have Hcall:=zh hcall;have hyes:∀h,h<n→blt (ea cs h).k key=true→h<fE cs key:=fun h hh hb=>by
  rcases zng h (fE cs key) with h3|h3
  ·exact h3
  ·rw[fE_ge ha key h h3 (by omega)] at hb;cases hb
 have hno:∀h,h<n→blt (ea cs h).k key=false→fE cs key≤h:=fun h hh hb=>by
  rcases zng h (fE cs key) with h3|h3
  ·rw[q16 cs key h h3] at hb;cases hb
  ·exact h3
 have Hyes:=zh (zai hyes hno);have hF:fE cs key≤n:=by have:=y18 cs key;unfold z12 at this;split at this<;>omega
 clear hcall hyes hno h1 h2 hn hs ha;generalize fE cs key=F at*
 go_enter Tryz.func93,Tryz.ntmps93
 go_wp2_with fail
 go_loopw [5,6] (fun i j wr=>∃x y:Nat,i=.int .i64 x∧j=.int .i64 y∧x≤y∧y≤n∧x≤F∧F≤y∧Hid (Below w.heap.size w wr)) (fun i j _=>(intOf j-intOf i).toNat)
 case atStart=>exact⟨0,n,rfl,rfl,by omega,by omega,by omega,by omega,zbr _ _⟩
 case round=>
  obtain⟨x,y,rfl,rfl,hxy,hyn,hx,hy,hB⟩:=hrel
  by_cases hlt:x<y
  ·obtain⟨H,hH⟩:∃H,H=(x+y)/2:=⟨_,rfl⟩
   have e1:((x:Int)+(y:Int))/2=(H:Int):=by omega
   have z1:x≤H:=by omega
   have z2:H<y:=by omega
   have hc:=zh (Hcall.out wr H (by omega) hB.out);have hs:=Hyes.out.1 H (by omega);have hs2:=Hyes.out.2 H (by omega);clear hH;generalize blt (ea cs H).k key=D at*
   cases D with
   | true=>
    have hs':=hs rfl;clear hs hs2;rw[show(!true)=false from rfl] at hc
    go_wp2_with (go_at_fn 95;refine hc.out.mono ?_;rintro e w' ⟨rfl,hb⟩)
    have hB2:=zh (hB.out.trans (hb.mono hB.out.size));clear hb
    go_roundw
    case rel=>exact⟨H+1,y,by go_num,rfl,by omega,by omega,by omega,by omega,hB2⟩
    case measure=>simp[intOf];omega
   | false=>
    have hs':=hs2 rfl;clear hs hs2;rw[show(!false)=true from rfl] at hc
    go_wp2_with (go_at_fn 95;refine hc.out.mono ?_;rintro e w' ⟨rfl,hb⟩)
    have hB2:=zh (hB.out.trans (hb.mono hB.out.size));clear hb
    go_roundw
    case rel=>exact⟨x,H,rfl,by go_num,by omega,by omega,by omega,by omega,hB2⟩
    case measure=>simp[intOf];omega
  ·obtain rfl:x=F:=by omega
   go_wp2;go_ret;exact⟨rfl,hB.out⟩
set_option maxRecDepth 100000 in
theorem y4w (a:Option Addr)(n c:Nat)(cs:List En)(key:ByteArray)(w:World)(hn:cs.length=n)(hs:CS w a cs)(ha:srt cs)(hl:n≤65536):
  Calls Tryz.prog 64 #[.slice a n c,.string key] w fun e w'=>e=.returned (.tuple #[.int .i64 (fE cs key:Nat),.bool (isE cs key)])∧Below w.heap.size w w':=by
 obtain⟨w2,hw2⟩:∃w2,w2=(w.alloc (.cells #[.slice a n c] SCT)).alloc (.cells #[.string key] 9):=⟨_,rfl⟩
 have hb2:Below w.heap.size w w2:=by rw[hw2];exact((zbr _ _).alloc (zlr _) _).alloc (by simp) _
 have c1:w2.cell? ⟨w.heap.size,0,none⟩=some (.slice a n c):=by rw[hw2];simp
 have c2:w2.cell? ⟨w.heap.size+1,0,none⟩=some (.string key):=by rw[hw2];simp
 have hsr:=zh (y60 w2 w.heap.size (w.heap.size+1) a n c cs key c1 c2 hn (hs.below hb2 (zlr _)) ha hl);have l1:w.heap.size<w2.heap.size:=by rw[hw2];simp;omega
 have l2:w.heap.size+1<w2.heap.size:=by rw[hw2];simp
 have hmf:∀(fn:Fn) (first cap:Array Value) (w:World),(Instr.makeFunc fn first cap).run Tryz.prog w=.ok (.func fn first cap) w:=fun _ _ _ _=>rfl
 have hF:fE cs key≤n:=by have:=y18 cs key;unfold z12 at this;split at this<;>omega
 have hat:Hid (isE cs key=(decide (fE cs key<n)&&((ea cs (fE cs key)).k.toList==key.toList))):=by show _=_;rw[y4f,hn]
 have Hs:=zh hs;have Hn:=zh hn;have Hb2:=zh hb2;have Hc:=zh (zai c1 c2);clear c1 c2 hs hn hb2 ha;generalize isE cs key=AT at*;generalize fE cs key=F at*;subst hw2
 go_enter Tryz.func64,Tryz.ntmps64
 go_wp2_with fail;refine hsr.out.mono ?_;rintro e w3 ⟨rfl,hb3⟩;have r1:∀w',Ext w3.drew w'→w'.cell? ⟨w.heap.size,0,none⟩=some (.slice a n c):=fun w' hw=>by
  have hb4:=(hb3.drew).trans (hw.mono hb3.size);rw[hb4.cell (p:=⟨w.heap.size,0,none⟩) l1];exact Hc.out.1
 have r2:∀w',Ext w3.drew w'→w'.cell? ⟨w.heap.size+1,0,none⟩=some (.string key):=fun w' hw=>by
  have hb4:=(hb3.drew).trans (hw.mono hb3.size);rw[hb4.cell (p:=⟨w.heap.size+1,0,none⟩) l2];exact Hc.out.2
 have HB:=zh (Hb2.out.trans (hb3.mono Hb2.out.size));have Hs3:=zh (Hs.out.below HB.out (zlr _));have HBd:Hid (Below w.heap.size w w3.drew):=HB.out.drew;clear hb3 hsr Hc Hb2 hmf l1 l2 HB
 by_cases hlt:F<n
 ·obtain⟨g,o,rfl,hcell⟩:=Hs3.out.ents (by rw[Hn.out];omega);have hA:=(hcell F (by rw[Hn.out];exact hlt)).1;have lA:=block_lt_of_cell hA;have q0:∀w',Ext w3.drew w'→w'.cell? ⟨g,o+F*3,none⟩=some (.string (ea cs F).k):=fun w' hw=>by
   rw[((zbr w3.heap.size w3).drew.trans hw).cell (p:=⟨g,o+F*3,none⟩) lA];exact hA
  have hD:∃D,((ea cs F).k.toList==key.toList)=D:=⟨_,rfl⟩
  obtain⟨D,hD⟩:=hD;have hat2:Hid (AT=D):=by show _=_;rw[hat.out,hD];simp[hlt]
  generalize ea cs F=y at*;obtain⟨y0,y1,_⟩:=y;dsimp only at q0 hD;clear hcell hA lA hat;go_wp2_with fail;refine z0n [(0,true),(1,true),(2,true),(3,true),(4,true),(5,true),(6,true),(7,true),(8,true),(9,true),(10,true),(11,true),(12,true),(13,true),(14,true),(15,true),(16,true)] (by kernel_rfl) (by kernel_rfl) (by kernel_rfl) (by kernel_rfl) (fun _ _ _ _ _ h=>h) ?_;iterate 17 (first|(refine grr (v:= ?_) rfl (by rfl) ?_ ?_;rotate_left;(intro w' hw';go_simp;with_reducible rfl);simp only[Act.put,zs0,zs1,zs2])|(refine z53 (o:=⟨_,_,_,_,_,_⟩) rfl (by rfl) ?_;simp only[Act.put,zs0,zs1,zs2]))
  refine z07 ?_;go_wp2_with fail
  go_ret2
  exact⟨by rw[hat2.out];rfl,HBd.out⟩
 ·have hat2:Hid (AT=false):=by show _=_;rw[hat.out];simp[hlt]
  clear hat;go_wp2_with fail;refine z0n [(0,true),(1,true),(2,true),(3,true),(4,true),(5,true),(6,true),(7,true),(8,true),(9,true),(10,true),(11,true),(12,true),(13,true),(14,true),(15,true),(16,true)] (by kernel_rfl) (by kernel_rfl) (by kernel_rfl) (by kernel_rfl) (fun _ _ _ _ _ h=>h) ?_;iterate 17 (first|(refine grr (v:= ?_) rfl (by rfl) ?_ ?_;rotate_left;(intro w' hw';go_simp;with_reducible rfl);simp only[Act.put,zs0,zs1,zs2])|(refine z53 (o:=⟨_,_,_,_,_,_⟩) rfl (by rfl) ?_;simp only[Act.put,zs0,zs1,zs2]))
  refine z07 ?_;go_wp2_with fail
  go_ret2
  exact⟨by rw[hat2.out];rfl,HBd.out⟩
end Go.Proofs.YtdnfhjfbanhhcaaGreatDoor
namespace Go.Proofs.YtdnfhjfbanhhcaaGreatDoor
open Go Go.RowKit
theorem z8n (n:Int)(w:World):Calls Tryz.prog 161 #[.int .i64 n] w fun e w'=>e=.returned (.bool (decide (n≤64)))∧w=w':=by
 generalize hD:decide (n≤64)=D
 go_enter Tryz.func161,Tryz.ntmps161
 go_wp2;go_ret;exact⟨rfl,rfl⟩
set_option maxRecDepth 100000 in
theorem z71 (k:ByteArray)(n:Nat)(w:World)(hk:k.size≤65536)(hn:n≤65536):Calls Tryz.prog 159 #[.string k,.int .i64 n] w fun e w'=>e=.returned (.int .i64 (z32 k n:Nat))∧w=w':=by
 have h1:=z6n k.size w (by omega);have h2:=z6n n w (by omega);have v1:=z6a (show k.size<18446744073709551616 by omega);have v2:=z6a (show n<18446744073709551616 by omega);have hi:=z8n n w;have hmx:max (n:Int) 0=(n:Int):=by omega
 have hS:Hid (z32 k n=vs k.size+k.size+vs n+(if (n:Int)≤64 then n else 2)):=by show _=_;unfold z32;rw[show((n:Int)).toNat=n from rfl]
 generalize z32 k n=S at*;generalize vs k.size=A at*;generalize vs n=B at*
 by_cases h64:(n:Int)≤64
 ·have d1:decide ((n:Int)≤64)=true:=by simpa using h64
  rw[d1] at hi;have hS2:Hid (S=A+k.size+B+n):=by show _=_;rw[hS.out,if_pos h64]
  clear hS d1
  go_enter Tryz.func159,Tryz.ntmps159
  go_wp2_with fail;refine h1.mono ?_;rintro e w' ⟨rfl,rfl⟩;go_wp2_with fail;refine h2.mono ?_;rintro e w' ⟨rfl,rfl⟩;go_wp2_with fail;refine hi.mono ?_;rintro e w' ⟨rfl,rfl⟩;go_wp2;go_ret;exact⟨by rw[hS2.out];simp,rfl⟩
 ·have d1:decide ((n:Int)≤64)=false:=by simpa using h64
  rw[d1] at hi;have hS2:Hid (S=A+k.size+B+2):=by show _=_;rw[hS.out,if_neg h64]
  clear hS d1
  go_enter Tryz.func159,Tryz.ntmps159
  go_wp2_with fail;refine h1.mono ?_;rintro e w' ⟨rfl,rfl⟩;go_wp2_with fail;refine h2.mono ?_;rintro e w' ⟨rfl,rfl⟩;go_wp2_with fail;refine hi.mono ?_;rintro e w' ⟨rfl,rfl⟩;go_wp2;go_ret;exact⟨by rw[hS2.out];simp,rfl⟩
abbrev CT:TypeId:=170
def Ce.val (c:Ce):Value:=.agg #[.string c.k,.string c.v,.int .i64 c.n,.int .i64 c.p]
theorem q4t (k v:ByteArray)(n p:Int)(h:n≤64):plB ⟨k,v,n,p⟩=(((v.size:Int)==n)&&(p==0)):=by
 unfold plB;simp only;rw[if_pos h,Bool.eq_iff_iff];simp
theorem q2p (k v:ByteArray)(n p:Int)(h:¬n≤64):plB ⟨k,v,n,p⟩=(v.toList.isEmpty&&(decide (2≤p)&&decide (p<1024))):=by
 have e:v.toList.isEmpty=decide (v.size=0):=by
  rw[Bool.eq_iff_iff,List.isEmpty_iff,decide_eq_true_iff,Lib.toList_data];constructor
  ·intro h;have:=congrArg List.length h;simpa using this
  ·intro h;exact List.eq_nil_of_length_eq_zero (by simpa using h)
 unfold plB;simp only;rw[if_neg h,e,Bool.eq_iff_iff];simp;omega
theorem x0v (k v:ByteArray)(n p:Int)(w:World):Calls Tryz.prog 157 #[.agg #[.string k,.string v,.int .i64 n,.int .i64 p]] w fun e w'=>e=.returned (.bool (plB ⟨k,v,n,p⟩))∧Below w.heap.size w w':=by
 have hb:Hid (Below w.heap.size w (w.alloc (.cells #[.string k,.string v,.int .i64 n,.int .i64 p] CT))):=(zbr _ _).alloc (zlr _) _;have hi:=fun w=>z8n n w
 by_cases h1:n≤64
 ·have hp:=zh (q4t k v n p h1);have d1:decide (n≤64)=true:=by simpa using h1
  rw[d1] at hi;obtain⟨D,hD⟩:∃D,((v.size:Int)==n)=D:=⟨_,rfl⟩
  rw[hD] at hp;obtain⟨E,hE⟩:∃E,(p==0)=E:=⟨_,rfl⟩
  rw[hE] at hp;clear d1 h1
  go_enter Tryz.func157,Tryz.ntmps157
  go_wp2_with fail;refine(hi _).mono ?_;rintro e w' ⟨rfl,rfl⟩
  cases D
  all_goals
   go_wp2;go_ret;exact⟨by rw[hp.out];rfl,hb.out⟩
 ·have hp:=zh (q2p k v n p h1);have d1:decide (n≤64)=false:=by simpa using h1
  rw[d1] at hi;obtain⟨E,hE⟩:∃E,decide (2≤p)=E:=⟨_,rfl⟩
  rw[hE] at hp;obtain⟨F,hF⟩:∃F,decide (p<1024)=F:=⟨_,rfl⟩
  rw[hF] at hp;clear d1 h1
  by_cases hv:v.toList=[]
  ·have hp2:Hid (plB ⟨k,v,n,p⟩=(E&&F)):=by show _=_;rw[hp.out,hv];rfl
   clear hp
   go_enter Tryz.func157,Tryz.ntmps157
   go_wp2_with fail;refine(hi _).mono ?_;rintro e w' ⟨rfl,rfl⟩
   cases E
   all_goals
    go_wp2;go_ret;exact⟨by rw[hp2.out];rfl,hb.out⟩
  ·have hp2:Hid (plB ⟨k,v,n,p⟩=false):=by
    show _=_;rw[hp.out,show v.toList.isEmpty=false from by simpa using hv];rfl
   have hv2:v.toList.isEmpty=false:=by simpa using hv
   clear hp
   go_enter Tryz.func157,Tryz.ntmps157
   go_wp2_with fail;refine(hi _).mono ?_;rintro e w' ⟨rfl,rfl⟩;go_wp2;go_ret;exact⟨by rw[hp2.out];rfl,hb.out⟩
def chkC (b:Bool):Value:=if b=true then .nilIface else .iface 94 (.int .i64 1)
theorem z6p (k v:ByteArray)(n p:Int)(w:World):Calls Tryz.prog 118 #[.agg #[.string k,.string v,.int .i64 n,.int .i64 p]] w fun e w'=>e=.returned (chkC (mayB ⟨k,v,n,p⟩))∧Below w.heap.size w w':=by
 have hb0:Below w.heap.size w (w.alloc (.cells #[.string k,.string v,.int .i64 n,.int .i64 p] CT)):=(zbr _ _).alloc (zlr _) _;have hb:=zh hb0;have hm:Hid (mayB ⟨k,v,n,p⟩=(okK k&&(decide (n≤2048)&&plB ⟨k,v,n,p⟩))):=rfl;have hk:=fun w=>z54 k w
 have hp:=zh (x0v k v n p (w.alloc (.cells #[.string k,.string v,.int .i64 n,.int .i64 p] CT)));clear hb0;unfold chkV at hk;generalize plB ⟨k,v,n,p⟩=P at*;generalize mayB ⟨k,v,n,p⟩=M at*;obtain⟨K,hK⟩:∃K,okK k=K:=⟨_,rfl⟩
 rw[hK] at hk hm;clear hK
 cases K with
 | false=>
  simp only[Bool.false_eq_true,if_false] at hk;have hM:Hid (M=false):=by show _=_;rw[hm.out];rfl
  clear hm
  go_enter Tryz.func118,Tryz.ntmps118
  go_wp2_with fail;refine(hk _).mono ?_;rintro e w' ⟨rfl,rfl⟩;go_wp2;go_ret;exact⟨by rw[hM.out];rfl,hb.out⟩
 | true=>
  simp only[if_true] at hk
  by_cases h1:2048<n
  ·have hM:Hid (M=false):=by show _=_;rw[hm.out,show decide (n≤2048)=false by simp;omega];rfl
   have d1:decide (2048<n)=true:=by simpa using h1
   clear hm h1
   go_enter Tryz.func118,Tryz.ntmps118
   go_wp2_with fail;refine(hk _).mono ?_;rintro e w' ⟨rfl,rfl⟩;go_wp2;go_ret;exact⟨by rw[hM.out];rfl,hb.out⟩
  ·have hM:Hid (M=P):=by show _=_;rw[hm.out,show decide (n≤2048)=true by simp;omega];simp
   have d1:decide (2048<n)=false:=by simpa using h1
   clear hm h1
   go_enter Tryz.func118,Tryz.ntmps118
   go_wp2_with fail;refine(hk _).mono ?_;rintro e w' ⟨rfl,rfl⟩;go_wp2_with fail;refine hp.out.mono ?_;rintro e w' ⟨rfl,hb2⟩;have Hb2:=zh (hb.out.trans (hb2.mono hb.out.size));clear hb2 hp hb
   cases P
   all_goals
    go_wp2;go_ret;exact⟨by rw[hM.out];rfl,Hb2.out⟩
theorem x4s (w:World)(E:TypeId)(a a2:Option Addr)(n c n2 c2:Nat)(l l2:List Nat)(hn:l.length=n)(hn2:l2.length=n2)(hs:Src w a l)(hs2:Src w a2 l2)(hz:a=none→c=0)(hz2:a2=none→c2=0):
  x2o (w.alloc (.cells #[.slice a n c,.slice a2 n2 c2] E)) w.heap.size [l,l2]:=fun i hi=>by
 have hb:Below w.heap.size w (w.alloc (.cells #[.slice a n c,.slice a2 n2 c2] E)):=(zbr _ _).alloc (zlr _) _
 rcases i with _|_|i
 ·exact⟨a,c,by simp[hn],hs.below hb (zlr _),hz⟩
 ·exact⟨a2,c2,by simp[hn2],hs2.below hb (zlr _),hz2⟩
 ·simp at hi;omega
theorem y00 (w:World)(E:TypeId)(g:Nat)(arr:Array Value)(a a2:Option Addr)(n c n2 c2:Nat)(l l2:List Nat)(hg:g=w.heap.size)(harr:arr= #[.slice a n c,.slice a2 n2 c2])(hn:l.length=n)(hn2:l2.length=n2)(hs:Src w a l)(hs2:Src w a2 l2)(hz:a=none→c=0)(hz2:a2=none→c2=0)
  (hl:n+n2≤1099511627776):
  Calls Tryz.prog 162 #[.slice (some ⟨g,0,none⟩) 2 2] (w.alloc (.cells arr E)) fun e w'=>∃v,e=.returned v∧Sl w' v (l++l2)∧Below w.heap.size w w':=by
 subst hg harr;have hb:Below w.heap.size w (w.alloc (.cells #[.slice a n c,.slice a2 n2 c2] E)):=(zbr _ _).alloc (zlr _) _;refine(x0d w.heap.size 2 2 [l,l2] rfl _ (x4s w E a a2 n c n2 c2 l l2 hn hn2 hs hs2 hz hz2) (by simp;omega) (by omega)).mono ?_;rintro e w' ⟨v,rfl,hv,hb'⟩;refine⟨v,rfl,?_,hb.trans (hb'.mono hb.size)⟩
 simpa using hv
set_option maxRecDepth 100000 in
theorem z6q (a a2:Option Addr)(n c n2 c2:Nat)(l l2:List Nat)(hn:l.length=n)(hn2:l2.length=n2)(w:World)(hs:Src w a l)(hs2:Src w a2 l2)(hz2:a2=none→c2=0)(hl:n≤65536)(hl2:n2≤1000000):
  Calls Tryz.prog 129 #[.slice a n c,.slice a2 n2 c2] w fun e w'=>∃v,e=.returned v∧Sl w' v (l++vb n2++l2)∧Below w.heap.size w w':=by
 have h:=z5v a n c l hn n2 w hs hl (by omega);have Hs2:=zh hs2;have Hz2:=zh hz2;have Hn:=zh (zai hn hn2);have h10:=z6a (show n2<18446744073709551616 by omega);have Hlen:Hid ((l++vb n2).length=n+vs n2):=by show _=_;rw[zla,hn];rfl
 clear hs hs2 hz2 hn hn2
 go_enter Tryz.func129,Tryz.ntmps129
 go_wp2_with fail;refine h.mono ?_;rintro e w1 ⟨v,rfl,hv,hb⟩;obtain⟨a1,c1,rfl,hs1,hz1,_⟩:=hv.arg;have hs2:=zh (Hs2.out.below hb (zlr _));have hlen:=Hlen.out;generalize hL:l++vb n2=L at*;obtain⟨N,hN⟩:∃N,N=L.length:=⟨_,rfl⟩
 rw[←hN] at hlen⊢
 have hN2:N+n2≤1099511627776:=by omega
 have HN:=zh (zai hL hN);clear hlen hL hN Hlen;have Hs1:=zh hs1;have Hz1:=zh hz1;have Hb:=zh hb;clear hv hb h hs1 hz1;go_wp2_with fail;refine(y00 _ _ _ _ a1 a2 N c1 n2 c2 L l2 (by rfl) rfl HN.out.2.symm Hn.out.2 Hs1.out hs2.out Hz1.out Hz2.out hN2).mono ?_;rintro e w' ⟨v,rfl,hv,hb'⟩;have hbn:=Hb.out.trans (hb'.mono Hb.out.size);go_wp2;go_ret;exact⟨_,rfl,by rw[HN.out.1];exact hv,hbn⟩
theorem q2q {w:World}{g o c k n:Nat}{l:List Nat}(hc:Cs w g o l)(hn:l.length=n)(hk:k≤n)(hnc:n≤c)(hcm:c≤maxLen):Sl w (.slice (some ⟨g,o,none⟩) k c) (l.take k):=by
 have e:(l.take k).length=k:=by rw[zlk];omega
 refine .inr ⟨g,o,c,by rw[e],hc.start k,by rw[e];omega,hcm⟩
theorem q2r {w:World}{g o c k n:Nat}{l:List Nat}(hc:Cs w g o l)(hn:l.length=n)(hk:k≤n)(hnc:n≤c)(hcm:c≤maxLen):Sl w (.slice (some ⟨g,o+k,none⟩) (n-k) (c-k)) (l.drop k):=by
 have e:(l.drop k).length=n-k:=by rw[zld];omega
 refine .inr ⟨g,o+k,c-k,by rw[e],hc.rest k,by rw[e];omega,by omega⟩
theorem q4u {w:World}{g o k n:Nat}{l:List Nat}(hn:l.length=n)(hk:n≤k):Sl w (.slice (some ⟨g,o,none⟩) 0 0) (l.drop k):=by
 rw[List.drop_of_length_le (by omega)];exact .inr ⟨g,o,0,rfl,fun i hi=>by simp at hi,zlr _,by unfold maxLen;omega⟩
def z4t (S:RS)(k:Nat):List Nat×RS:=if k≤S.l.length then (S.l.take k,⟨S.l.drop k,S.wr⟩) else ([],⟨[],true⟩)
def z5w (S:RS):Value:=if okS S=true then .nilIface else errV 3
theorem y82 (w:World)(b:Nat)(S:RS)(h:Rd w b S):
  Calls Tryz.prog 138 #[.pointer (some ⟨b,0,none⟩)] w fun e w'=>e=.returned (z5w S)∧w=w':=by
 obtain⟨v,h1,h2⟩:=h.ex;have c0:=h1.c0;have c1:=h1.c1;have hl:=h.len;obtain⟨a,c,rfl,_⟩:=h2.arg;obtain⟨l,wr⟩:=S;dsimp only at*;clear h h1 h2
 cases wr with
 | true=>
  have e:Hid (z5w ⟨l,true⟩=errV 3):=by show _=_;unfold z5w okS;simp
  generalize l.length=n at*
  go_enter Tryz.func138,Tryz.ntmps138
  go_wp2;go_ret;exact⟨by rw[e.out];rfl,rfl⟩
 | false=>
  by_cases h0:l=[]
  ·subst h0;have e:Hid (z5w ⟨[],false⟩=.nilIface):=by show _=_;unfold z5w okS;simp
   go_enter Tryz.func138,Tryz.ntmps138
   go_wp2;go_ret;exact⟨by rw[e.out];rfl,rfl⟩
  ·have e:Hid (z5w ⟨l,false⟩=errV 3):=by show _=_;unfold z5w okS;simp[h0]
   have hp:0<l.length:=List.length_pos_iff.2 h0;generalize l.length=n at*;have d1:decide (0<(n:Int))=true:=by simp;omega
   go_enter Tryz.func138,Tryz.ntmps138
   go_wp2;go_ret;exact⟨by rw[e.out];rfl,rfl⟩
theorem x4t (S:RS)(k:Nat):(z4t S k).1.length≤S.l.length:=by
 unfold z4t;split
 ·show(S.l.take k).length≤_;rw[zlk];omega
 ·exact Nat.zero_le _
theorem x4u {S:RS}(h:S.wr=true→S.l=[]):(S.l=[]→z4t S 1=([],(z1z S).2))∧(S.l≠[]→z4t S 1=([(z1z S).1],(z1z S).2)):=by
 obtain⟨l,wr⟩:=S;constructor
 ·intro h0;dsimp only at h0;subst h0;rw[z4m rfl];rfl
 ·intro h0;rw[z3o h0];dsimp only at h h0⊢
  cases l with
  | nil=>exact absurd rfl h0
  | cons x r=>
   cases wr with
   | true=>exact absurd (h rfl) (by simp)
   | false=>rfl
theorem y61 (S:RS)(m:Nat):z0g S m=z4t (numS S m).2 (numS S m).1:=by
 by_cases hw:(numS S m).2.wr=true
 ·rw[z16 (by rw[hw];simp)];rw[x2j hw];rfl
 ·have hw':(numS S m).2.wr=false:=by simpa using hw
  by_cases hl:(numS S m).1≤(numS S m).2.l.length
  ·rw[z2l hw' hl];unfold z4t;rw[if_pos hl,hw']
  ·rw[z16 (fun h=>hl h.2)];unfold z4t;rw[if_neg hl]
theorem x8e (w:World)(b:Nat)(S:RS)(h:Rd w b S):
  Calls Tryz.prog 136 #[.pointer (some ⟨b,0,none⟩)] w fun e w'=>e=.returned (.int .i64 (S.l.length:Nat))∧w=w':=by
 obtain⟨v,h1,h2⟩:=h.ex;have c0:=h1.c0;have hl:=h.len;obtain⟨a,c,rfl,_⟩:=h2.arg;generalize S.l.length=n at*;clear h h1 h2
 go_enter Tryz.func136,Tryz.ntmps136
 go_wp2;go_ret;exact⟨rfl,rfl⟩
def z7l (f:Nat→Bool)(k m:Nat):Bool:=f m&&decide (k≤cnt f m)
theorem take_zero (f:Nat→Bool):z7l f 0=f:=by
 funext m;unfold z7l;rw[zdt (by omega)];simp
theorem x4v (f:Nat→Bool)(k:Nat)(h:k<cnt f 1024):sc (outR (z7l f k) (el f k:Int))=sc (z7l f (k+1)):=z8s (fun m hm=>by
 unfold outR z7l;obtain⟨_,h2,h3,_⟩:=x1z f k h
 cases hf:f m with
 | false=>rfl
 | true=>
  rw[Bool.true_and,Bool.true_and,Bool.eq_iff_iff,Bool.and_eq_true,decide_eq_true_iff,decide_eq_true_iff,Bool.not_eq_true',decide_eq_false_iff_not];constructor
  ·rintro⟨h4,h5⟩
   rcases zng k (cnt f m) with h6|h6
   ·exact h6
   ·have:=q07 h hf (show cnt f m=k by omega);omega
  ·intro h4;refine⟨by omega,fun e=> ?_⟩;have:m=el f k:=by omega
   rw[this,h3] at h4;omega)
theorem PgS.turn {F:Nat→Prop}{w w':World}{a:Option Addr}{is:List Int}(h:PgS w a is)(ht:Turn F w w')(hF:∀g o,a=some ⟨g,o,none⟩→¬F g):PgS w' a is:=fun h0=>by
 obtain⟨g,o,rfl,hc⟩:=h h0;exact⟨g,o,rfl,fun i hi=>by rw[ht.cell (p:=⟨g,o+i,none⟩) (block_lt_of_cell (hc i hi)) (hF g o rfl)];exact hc i hi⟩
theorem y4x {fn:Func}{p q r:Tmp}(h:fn.results= #[.tmp p,.cell q TS,.tmp r])(tmps:Array Value)(w:World)(g:Nat)(f:Nat→Bool)(u v:Value)(hp:tmps.getD p undef=u)(hq:tmps.getD q undef=.pointer (some ⟨g,0,none⟩))(hr:tmps.getD r undef=v)(hg:Blk w g TS (sc f)):
  (results fn tmps).run Tryz.prog w=.ok (.tuple #[u,.agg (sc f),v]) w:=by
 have hp':tmps[p]?.getD undef=u:=by simpa using hp
 have hq':tmps[q]?.getD undef=.pointer (some ⟨g,0,none⟩):=by simpa using hq
 have hr':tmps[r]?.getD undef=v:=by simpa using hr
 simp[results,h,hp',hq',hr',asAddr,z70 z0i w g _ hg (z3h f)]
def PgT (w:World)(a:Option Addr)(is:List Int):Prop:=PgS w a is∧∀ad,a=some ad→∃g o A fz,ad=⟨g,o,none⟩∧w.heap[g]? =some (.cells A 3 fz)
theorem PgT.below {w w':World}{a:Option Addr}{is:List Int}{B:Nat}(h:PgT w a is)(hb:Below B w w')(hB:w.heap.size≤B):PgT w' a is:=⟨h.1.below hb hB,fun ad e=>by
 obtain⟨g,o,A,fz,h0,h1⟩:=h.2 ad e;exact⟨g,o,A,fz,h0,(hb.block g (Nat.lt_of_lt_of_le (zag.1 h1).1 hB)).trans h1⟩⟩
theorem PgT.turn {w w':World}{a:Option Addr}{is:List Int}{F:Nat→Prop}(h:PgT w a is)(t:Turn F w w')(hF:∀ad,a=some ad→¬F ad.block):PgT w' a is:=⟨h.1.turn t (fun g o e=>hF ⟨g,o,none⟩ e),fun ad e=>by
 obtain⟨g,o,A,fz,rfl,h1⟩:=h.2 ad e;exact⟨g,o,A,fz,rfl,t.hg h1 (hF _ e)⟩⟩
theorem x8f {w:World}{B E sz n:Nat}{v:Value}{xs:List Value}(h:w.ownsRow B E sz v n xs):∀ad m c,v=.slice (some ad) m c→∃g o A fz,ad=⟨g,o,none⟩∧w.heap[g]? =some (.cells A E fz):=fun ad m c hv=>by
 rcases h.2 with ⟨rfl,_⟩|⟨g,cap,cur,rfl,_,hg,_⟩
 ·cases hv
 ·injection hv with hv _ _
  injection hv with hv
  exact⟨g,0,cur,_,hv.symm,hg⟩
set_option maxRecDepth 100000 in
theorem x8g (f:Nat→Bool)(n C:Nat)(w:World)(hC:cnt f 1024=C)(hn:n≤C)(hC9:C≤1024)(hT:z56 w):Calls Tryz.prog 29 #[.agg (sc f),.int .i64 n] w fun e w'=>∃a,e=.returned (.tuple #[.slice a n n,.agg (sc (z7l f n)),.nilIface])∧PgT w' a ((eI f 1024).take n)∧(a=none→n=0)∧Below w.heap.size w w':=by
 have d1:¬(C:Int)<(n:Int):=by omega
 have d2:¬C<n:=by omega
 have HT:=zh hT;have Hn:=zh hn;have HL:=zh ((q0g f 1024).trans hC);have HCnt:=zh (y0v f);have HAll:=zh (x8b f);rw[hC] at HCnt;have Hst:=zh (fun k=>x4v f k);rw[hC] at Hst;have Hia:=zh (fun k=>eI_ia f k);rw[hC] at Hia;have Htk:Hid (∀k,k≤C→((eI f 1024).take k).length=k):=fun k hk=>by rw[zlk,HL.out];omega
 have Htl:Hid (∀k,ia ((eI f 1024).take n) k=if k<n then ia (eI f 1024) k else 0):=fun k=>by
  unfold ia;rw[List.getD_eq_getElem?_getD,List.getD_eq_getElem?_getD,List.getElem?_take]
  by_cases h:k<n
  ·rw[if_pos h,if_pos h]
  ·rw[if_neg h,if_neg h];rfl
 generalize eI f 1024=L at*;clear hT hn hC;have hn9:n≤1024:=znt Hn.out hC9
 go_enter Tryz.func29,Tryz.ntmps29
 go_wp2_with (first
  | (refine z0q rfl TS (.tmp 0) rfl (sc f) (by rfl) ?_;intro g1 w1 hg1 hk1 hb1)
  | (show wpList _ _ _ (⟨some 5,_,_,_,_,_⟩::_) _ _;refine z0o rfl TS rfl z18 ?_;intro g2 w2 hg2 hk2 hb2)
  | (refine z0e rfl TS (.tmp 2) rfl g1 f TS (by rfl) z0i (hk1.ext hb2) ?_))
 refine(HCnt.out w2).mono ?_;rintro e w3 ⟨rfl,hb3⟩;have hb:=(hb1.trans (hb2.mono hb1.size)).trans (hb3.mono (hb1.trans (hb2.mono hb1.size)).size);have hk3:=hk2.ext hb3;have hk1b:=(hk1.ext hb2).ext hb3;have Hg:Hid (w.heap.size≤g1∧w.heap.size≤g2∧g2≠g1∧g1<w3.heap.size∧g2<w3.heap.size):=⟨hg1,znt hb1.size hg2,by have:=hk1.lt;omega,hk1b.lt,hk3.lt⟩
 clear hb1 hb2 hb3 hk1 hk2 hg1 hg2
 go_wp2_with (first|(show wpList _ _ _ (⟨some 20,_,_,_,_,_⟩::_) _ _;refine z0e rfl TS (.tmp 2) rfl g1 f TS (by rfl) z0i hk1b ?_))
 refine(HAll.out w3 (HT.out.below hb)).mono ?_;rintro e w4 ⟨v,rfl,ho4,hb4⟩;have hge:=fun j hj=>(ho4.lt j hj).1
 have hty:=x8f ho4;obtain⟨pa,pc,rfl,hps,hz,hcl,hcm⟩:=z4n ho4;rw[HL.out] at hcl⊢
 have HB:Hid (Below w.heap.size w w4):=hb.trans (hb4.mono hb.size);have HK:Hid (Blk w4 g1 TS (sc f)∧Blk w4 g2 TS (sc (fun _=>false))):=⟨hk1b.ext hb4,hk3.ext hb4⟩
 have Hps:Hid (PgT w4 pa L):=⟨hps,fun ad e=>hty ad _ _ (by rw[e])⟩
 have Hnz:Hid (pa=none→n=0):=fun e=>by have:=hz e;have:=Hn.out;omega
 have Hge:=zh hge;have n1:(n:Int)≤(pc:Int):=by have:=Hn.out;omega
 have n0:(0:Int)≤(n:Int):=by omega
 clear ho4 hps hb hb4 hk3 hk1b d1 d2 hge hty hz;go_wp2_with fail;have hge2:Hid (∀ad,pa=some ad→¬ad.block=g1∧¬ad.block=g2):=fun ad e=>by
  subst e;have:=Hge.out ad.block rfl;have:=Hg.out.2.2.2.1;have:=Hg.out.2.2.2.2;omega
 go_loopw [9,27] (fun _ i wr=>∃k:Nat,i=.int .i64 k∧k≤n∧Hid (Blk wr g1 TS (sc (z7l f k))∧Blk wr g2 TS (sc (fun _=>false)))∧Hid (PgT wr pa L)∧Hid (Below w.heap.size w wr)) (fun _ i _=>n-(intOf i).toNat)
 case atStart=>exact⟨0,rfl,by omega,by rw[take_zero];exact HK,Hps,HB⟩
 case round=>
  obtain⟨k,rfl,hk,HK1,HP1,HB1⟩:=hrel
  by_cases hlt:k<n
  ·have hlt2:(k:Int)<(n:Int):=by omega
   have hkl:k<L.length:=by rw[HL.out];have:=Hn.out;omega
   obtain⟨g,o,ea,hcell⟩:=HP1.out.1 (by omega);have q0:=hcell k hkl;have hkc:k<C:=by have:=Hn.out;omega
   rw[Hia.out k hkc] at q0;have hstep:=Hst.out k hkc;have Hge3:Hid (¬g=g1∧¬g=g2):=hge2.out ⟨g,o,none⟩ ea;have Hea:=zh ea;obtain⟨E,hE⟩:∃E:Int,(el f k:Int)=E:=⟨_,rfl⟩
   rw[hE] at q0 hstep;have Hs:=zh hstep;have hwo:=zh (fun w=>y6r (z7l f k) E w);rw[Hs.out] at hwo;clear hcell hkl hkc hE hstep;subst ea
   go_wp2_with (first|(show wpList _ _ _ (⟨some 31,_,_,_,_,_⟩::_) _ _;refine z0e rfl TS (.tmp 2) rfl g1 _ TS (by rfl) z0i HK1.out.1 ?_))
   refine(hwo.out wr).mono ?_;rintro e w5 ⟨rfl,hb5⟩;have hB5:=HB1.out.trans (hb5.mono HB1.out.size);have hk5:=HK1.out.1.ext hb5;have hk6:=HK1.out.2.ext hb5;have hp5:=HP1.out.below hb5 (zlr _);clear hb5 HK1 HP1 HB1 hwo q0
   go_wp2_with (first|(refine z0j rfl TS (.tmp 2) (.tmp 33) rfl g1 _ _ TS (by rfl) (by rfl) z0i hk5 ?_;intro w6 hk7 ht6 _))
   have HB6:Hid (Below w.heap.size w w6):=hB5.trans (ht6.below hB5.size (fun i hi=>by subst hi;exact Hg.out.1));have HK6:Hid (Blk w6 g1 TS (sc (z7l f (k+1)))∧Blk w6 g2 TS (sc (fun _=>false))):=⟨hk7,hk6.turn ht6 Hg.out.2.2.1⟩
   have HP6:Hid (PgT w6 (some ⟨g,o,none⟩) L):=hp5.turn ht6 (fun ad e=>by cases e;exact Hge3.out.1);clear hB5 hk5 hk6 hp5 hk7 ht6
   go_roundw
   case rel=>exact⟨k+1,by go_num,by omega,HK6,HP6,HB6⟩
   case measure=>simp[intOf];omega
  ·obtain rfl:k=n:=by omega
   have hlt2:¬(k:Int)<(k:Int):=by omega
   have HPt:Hid (∀w',PgT w' pa L→PgT w' pa (L.take k)):=fun w' hp=>⟨fun h0=>by
    obtain⟨g,o,ea,hcell⟩:=hp.1 (by rw[zlk] at h0;omega);refine⟨g,o,ea,fun i hi=> ?_⟩;have hi2:i<k:=by rw[zlk] at hi;omega
    rw[Htl.out i,if_pos hi2];exact hcell i (by rw[HL.out];have:=Hn.out;omega),hp.2⟩
   go_wp2_with fail;refine z0k (F:=fun i=>i=g2) [(0,true),(1,true),(2,true),(3,false),(4,true)] (by kernel_rfl) (by kernel_rfl) (by kernel_rfl) (by kernel_rfl) (fun _ _ _ _ _ h=>h) ?_;have hk9:Blk wr.drew g1 TS (sc (z7l f k)):=HK1.out.1;have hk8:Blk wr.drew g2 TS (sc (fun _=>false)):=HK1.out.2;have hp9:PgT wr.drew pa L:=HP1.out;have hB9:Below w.heap.size w wr.drew:=HB1.out.drew;clear HK1 HP1 HB1;generalize wr.drew=w5 at*;iterate 1 (refine gtr (v:= ?_) rfl (by rfl) ?_ ?_;rotate_left;(intro w' hw';go_simp;with_reducible rfl);simp only[Act.put,zs0,zs1,zs2])
   refine gtr (v:=.agg (sc (z7l f k))) rfl (by rfl) (fun w' hw'=>z7f TS (.tmp 2) rfl g1 _ TS (by rfl) z0i (hk9.turn hw' (fun e=>Hg.out.2.2.1 e.symm))) ?_;simp only[Act.put,zs0,zs1,zs2];iterate 1 (refine gtr (v:= ?_) rfl (by rfl) ?_ ?_;rotate_left;(intro w' hw';go_simp;with_reducible rfl);simp only[Act.put,zs0,zs1,zs2])
   refine gtc rfl (by rfl) (fun K hK=> ?_);refine z1d TS (.tmp 5) (.tmp 36) rfl g2 (z7l f k) _ TS (by rfl) (by rfl) z0i hk8 ?_;intro w6 hk6 ht6 _;refine hK _ _ ht6 ?_;clear hK K;simp only[Act.put];iterate 1 (refine gtr (v:= ?_) rfl (by rfl) ?_ ?_;rotate_left;(intro w' hw';go_simp;with_reducible rfl);simp only[Act.put,zs0,zs1,zs2])
   refine z0z ?_;go_wp2;refine bodyPost_ret (v:=.tuple #[.slice pa k k,.agg (sc (z7l f k)),.nilIface]) ?_ rfl ?_
   ·exact y4x rfl _ _ g2 _ _ _ (by rfl) (by rfl) (by rfl) hk6
   ·exact⟨_,rfl,HPt.out _ (hp9.turn ht6 (fun ad e=>(hge2.out ad e).2)),Hnz.out,hB9.trans (ht6.below hB9.size (fun i hi=>by subst hi;exact Hg.out.2.1))⟩
end Go.Proofs.YtdnfhjfbanhhcaaGreatDoor
