/-
  Steps.
-/
import Derived.Test.YtdnfhjfbanhhcaaGreatDoorQLBk44
namespace Go.Proofs.YtdnfhjfbanhhcaaGreatDoor
open Go Go.RowKit
noncomputable def z98 (P:List (List Nat)) (root entries:Int):Option (List Tr×Nat):=match ldT P root with
 | none=>none
 | some (ts,H)=>if ((esL ts).length:Int)=entries then some (ts,H) else none
def LoQ (w w':World)(entries:Int)(x:Option (List Tr×Nat))(e:Ending):Prop:=match x with
 | none=>e=.returned (.tuple #[.agg #[.pointer none,.int .i64 0],.iface 94 (.int .i64 16)])∧Below w.heap.size w w'
 | some (ts,H)=>∃p,e=.returned (.tuple #[.agg #[.pointer p,.int .i64 entries],.nilIface])∧z0y w' p ts H∧Below w.heap.size w w'
theorem q5t (a:Option Addr)(n c:Nat):Tryz.zeroCells103.setIfInBounds 0 (.slice a n c)=rdv (.slice a n c) RO0.u RO0.d:=by kernel_rfl
theorem q5u (w:World):∃W,(w.alloc (.cells #[.pointer none,.int .i64 0] TT)).alloc (.cells #[.nilIface] ERT)=W∧Blk W w.heap.size TT #[.pointer none,.int .i64 0]∧Blk W (w.heap.size+1) ERT #[.nilIface]∧Below w.heap.size w W∧W.heap.size=w.heap.size+2:=by
 refine⟨_,rfl,?_,?_,((zbr w.heap.size w).alloc (zlr _) _).alloc (by simp) _,by simp⟩
 ·have h1:Blk (w.alloc (.cells #[.pointer none,.int .i64 0] TT)) w.heap.size TT #[.pointer none,.int .i64 0]:=z0h w TT _;exact h1.ext ((zbr _ _).alloc (zlr _) _)
 ·have h1:Blk ((w.alloc (.cells #[.pointer none,.int .i64 0] TT)).alloc (.cells #[.nilIface] ERT)) (w.alloc (.cells #[.pointer none,.int .i64 0] TT)).heap.size ERT #[.nilIface]:=z0h _ ERT _;rw[show(w.alloc (.cells #[.pointer none,.int .i64 0] TT)).heap.size=w.heap.size+1 by simp] at h1;exact h1
set_option maxHeartbeats 4000000 in
set_option maxRecDepth 100000 in
theorem x9w (a:Option Addr)(n c:Nat)(P:List (List Nat))(root entries:Int)(w:World)(hn:P.length=n)(hn9:n≤1024)(hP:PgA w a P)(hwo:z0x w)(he0:0≤entries)(he9:entries≤4096):
  Calls Tryz.prog 14 #[.slice a n c,.int .i64 root,.int .i64 entries] w fun e w'=>LoQ w w' entries (z98 P root entries) e:=by
 have hmf:∀(fn:Fn) (first cap:Array Value) (w:World),(Instr.makeFunc fn first cap).run Tryz.prog w=.ok (.func fn first cap) w:=fun _ _ _ _=>rfl
 obtain⟨W,hW,hT,hE,hb,hz⟩:=q5u w;have e1:decide ((1024:Int)<(n:Int))=false:=zdf (by omega);have e2:decide (1024<n)=false:=zdf (by omega);have e3:decide (entries<0)=false:=zdf (by omega);have e4:decide ((4096:Int)<entries)=false:=zdf (by omega);have HW:=zh hW;have HT:=zh hT;have HE:=zh hE;have HB:=zh hb;have HZ:=zh hz;have HP:=zh (zai hP hwo);have HN:=zh hn;clear hW hT hE hb hz hP hwo hn
 go_enter_defers Tryz.func14,Tryz.ntmps14
 go_upto_region 4 with fail
 rw[HW.out];go_wp2_with fail;rw[q5t a n c];obtain⟨W3,hW3⟩:∃W3,W.alloc (.cells (rdv (.slice a n c) RO0.u RO0.d) RDG)=W3:=⟨_,rfl⟩
 have hb3:Below W.heap.size W W3:=by rw[←hW3];exact(zbr _ _).alloc (zlr _) _
 have hg3:Blk W3 W.heap.size RDG (rdv (.slice a n c) RO0.u RO0.d):=by rw[←hW3];exact z0h W RDG _
 have hL3:LdW W3 W.heap.size a P:=⟨W,HP.out.1.below HB.out (zlr _),HP.out.2.below HB.out,hb3,zlr _⟩
 rw[hW3];have Htr:=zh (x6p W.heap.size a n c P root W3 HN.out hn9 hL3 hg3);have HT3:=zh (HT.out.ext hb3);have HE3:=zh (HE.out.ext hb3);have HB3:=zh (HB.out.trans (hb3.mono HB.out.size));have HZ3:Hid (W.heap.size=w.heap.size+2∧w.heap.size≤W3.heap.size):=⟨HZ.out,HB3.out.size⟩
 clear hW3 hb3 hg3 hL3 HT HE HW HP;generalize rdv (.slice a n c) RO0.u RO0.d=A at*;refine Htr.out.mono ?_;intro e w4 hq
 cases hl:ldT P root with
 | none=>
  rw[hl] at hq;obtain⟨rfl,ht⟩:=hq;have hN:z98 P root entries=none:=by unfold z98;rw[hl]
  have HN1:=zh hN;have hT4:=HT3.out.turn ht (fun e=>by have:=HZ3.out.1;omega);have hE4:=HE3.out.turn ht (fun e=>by have:=HZ3.out.1;omega);have hB4:=zh (HB3.out.trans (ht.below HB3.out.size (fun i hi=>by have:=HZ3.out.1;omega)));have HC:=zh (y9z w.heap.size (w.heap.size+1) w4 hT4 hE4);clear hl ht hN hT4 hE4;go_wp2;refine leaves_cons (f:=37) (args:= #[.pointer (some ⟨w.heap.size,0,none⟩),.pointer (some ⟨w.heap.size+1,0,none⟩)]) (by simp) (by simp[go_sem]) ?_;refine HC.out.mono ?_;rintro e u' w5 ⟨rfl,rfl,h5,h6,t5⟩;have d0:w5.cell? ⟨w.heap.size,0,none⟩=some (.pointer none):=by rw[h5.cell];rfl
  have d1:w5.cell? ⟨w.heap.size,1,none⟩=some (.int .i64 0):=by rw[h5.cell];rfl
  have d2:w5.cell? ⟨w.heap.size+1,0,none⟩=some (.iface 94 (.int .i64 16)):=by rw[h6.cell];rfl
  have Hfin:=zh (hB4.out.trans (t5.below hB4.out.size (fun i hi=>by omega)));rw[HN1.out];clear h5 h6 t5 HC;simp[Leaves,settle,results,Tryz.results14,go_sem,d0,d1,d2];exact⟨rfl,Hfin.out⟩
 | some z=>
  obtain⟨ts,H⟩:=z;rw[hl] at hq;obtain⟨p,rfl,htr,ht⟩:=hq;obtain⟨L,hL⟩:∃L,(esL ts).length=L:=⟨_,rfl⟩
  have hN:z98 P root entries=if (L:Int)=entries then some (ts,H) else none:=by unfold z98;rw[hl];simp only;rw[hL]
  have HN1:=zh hN;have HT4:=zh (HT3.out.turn ht (fun e=>by have:=HZ3.out.1;omega));have HE4:=zh (HE3.out.turn ht (fun e=>by have:=HZ3.out.1;omega));have HB4:=zh (HB3.out.trans (ht.below HB3.out.size (fun i hi=>by have:=HZ3.out.1;omega)));have Htr4:=zh htr;rw[hL];have hal:Below w4.heap.size w4 (w4.alloc (.cells #[.pointer p,.int .i64 (L:Nat)] TT)):=(zbr _ _).alloc (zlr _) _;have hlb:=z0h w4 TT #[.pointer p,.int .i64 (L:Nat)];obtain⟨W5,hW5⟩:∃W5,w4.alloc (.cells #[.pointer p,.int .i64 (L:Nat)] TT)=W5:=⟨_,rfl⟩
  rw[hW5] at hal hlb;have Hln:=zh (y2x p (L:Nat) W5);have HA:=zh hal;have HV:=zh (show Blk W5 w4.heap.size TT #[.pointer p,.int .i64 (L:Nat)] from hlb);have HW5:=zh hW5;clear hl htr ht hN hL hal hlb hW5;go_wp2_with fail;rw[HW5.out];refine Hln.out.mono ?_;rintro e w6 ⟨rfl,hb6⟩;have HV6:=zh (HV.out.ext hb6);have hb46:=HA.out.trans (hb6.mono HA.out.size);have HT6:=zh (HT4.out.ext hb46);have HE6:=zh (HE4.out.ext hb46);have HB6:=zh (HB4.out.trans (hb46.mono HB4.out.size));have Htr6:=zh (Htr4.out.ext hb46);clear hb6 hb46
  by_cases hE:(L:Int)=entries
  ·subst hE;rw[if_pos rfl] at HN1;have v0:w6.cell? ⟨w4.heap.size,0,none⟩=some (.pointer p):=by rw[HV6.out.cell];rfl
   have v1:w6.cell? ⟨w4.heap.size,1,none⟩=some (.int .i64 (L:Nat)):=by rw[HV6.out.cell];rfl
   have c0:w6.cell? ⟨w.heap.size,0,none⟩=some (.pointer none):=by rw[HT6.out.cell];rfl
   have c1:w6.cell? ⟨w.heap.size,1,none⟩=some (.int .i64 0):=by rw[HT6.out.cell];rfl
   have c2:w6.cell? ⟨w.heap.size+1,0,none⟩=some .nilIface:=by rw[HE6.out.cell];rfl
   have f0:=HT6.out.fz 0;have f1:=HT6.out.fz 1;have f2:=HE6.out.fz 0;have tp:Turn (fun i=>i=w.heap.size) w6 ((w6.setCell ⟨w.heap.size,0,none⟩ (.pointer p)).setCell ⟨w.heap.size,1,none⟩ (.int .i64 (L:Nat))):=((Turn.refl (fun i=>i=w.heap.size) w6).setCell _ (fun _=>rfl)).setCell _ (fun _=>rfl);have tq:Turn (fun i=>i=w.heap.size+1) ((w6.setCell ⟨w.heap.size,0,none⟩ (.pointer p)).setCell ⟨w.heap.size,1,none⟩ (.int .i64 (L:Nat))) (((w6.setCell ⟨w.heap.size,0,none⟩ (.pointer p)).setCell ⟨w.heap.size,1,none⟩ (.int .i64 (L:Nat))).setCell ⟨w.heap.size+1,0,none⟩ .nilIface):=(Turn.refl (fun i=>i=w.heap.size+1) _).setCell _ (fun _=>rfl);have h7:=(HT6.out.set 0 (.pointer p)).set 1 (.int .i64 (L:Nat));have h8:=HE6.out.turn tp (fun e=>by omega);have H7:=zh (Blk.turn h7 tq (fun e=>by omega));have H8:=zh (h8.set 0 .nilIface);have HtF:=zh ((Htr6.out.turn tp (TF.var HT6.out)).turn tq (TF.var h8));have HbF:=zh ((HB6.out.trans (tp.below HB6.out.size (fun i hi=>by omega))).trans (tq.below (znt HB6.out.size tp.size) (fun i hi=>by omega)));clear tp tq h7 h8;go_wp2_with fail;refine(z4c w6).mono ?_;rintro e w7 ⟨rfl,rfl⟩;go_wp2_with fail;refine leaves_cons (f:=37) (args:= #[.pointer (some ⟨w.heap.size,0,none⟩),.pointer (some ⟨w.heap.size+1,0,none⟩)]) (by simp) (by simp[go_sem]) ?_;refine(q3n ⟨w.heap.size,0,none⟩ ⟨w.heap.size+1,0,none⟩ _).mono ?_;rintro e u' w'' ⟨rfl,rfl,rfl⟩;have d0:(((w6.setCell ⟨w.heap.size,0,none⟩ (.pointer p)).setCell ⟨w.heap.size,1,none⟩ (.int .i64 (L:Nat))).setCell ⟨w.heap.size+1,0,none⟩ .nilIface).cell? ⟨w.heap.size,0,none⟩=some (.pointer p):=by rw[H7.out.cell];rfl
   have d1:(((w6.setCell ⟨w.heap.size,0,none⟩ (.pointer p)).setCell ⟨w.heap.size,1,none⟩ (.int .i64 (L:Nat))).setCell ⟨w.heap.size+1,0,none⟩ .nilIface).cell? ⟨w.heap.size,1,none⟩=some (.int .i64 (L:Nat)):=by rw[H7.out.cell];rfl
   have d2:(((w6.setCell ⟨w.heap.size,0,none⟩ (.pointer p)).setCell ⟨w.heap.size,1,none⟩ (.int .i64 (L:Nat))).setCell ⟨w.heap.size+1,0,none⟩ .nilIface).cell? ⟨w.heap.size+1,0,none⟩=some .nilIface:=by rw[H8.out.cell];rfl
   generalize ((w6.setCell ⟨w.heap.size,0,none⟩ (.pointer p)).setCell ⟨w.heap.size,1,none⟩ (.int .i64 (L:Nat))).setCell ⟨w.heap.size+1,0,none⟩ .nilIface=w9 at*;rw[HN1.out];clear H7 H8 v0 v1 c0 c1 c2 f0 f1 f2;simp[Leaves,settle,results,Tryz.results14,go_sem,d0,d1,d2];exact⟨p,rfl,HtF.out,HbF.out⟩
  ·have e5:((L:Int)==entries)=false:=beq_eq_false_iff_ne.2 hE;rw[if_neg hE] at HN1;have HC:=zh (y9z w.heap.size (w.heap.size+1) w6 HT6.out HE6.out);clear hE;go_wp2_with fail;refine(z4d w6).mono ?_;rintro e w7 ⟨rfl,rfl⟩;go_wp2;refine leaves_cons (f:=37) (args:= #[.pointer (some ⟨w.heap.size,0,none⟩),.pointer (some ⟨w.heap.size+1,0,none⟩)]) (by simp) (by simp[go_sem]) ?_;refine HC.out.mono ?_;rintro e u' w5 ⟨rfl,rfl,h5,h6,t5⟩;have d0:w5.cell? ⟨w.heap.size,0,none⟩=some (.pointer none):=by rw[h5.cell];rfl
   have d1:w5.cell? ⟨w.heap.size,1,none⟩=some (.int .i64 0):=by rw[h5.cell];rfl
   have d2:w5.cell? ⟨w.heap.size+1,0,none⟩=some (.iface 94 (.int .i64 16)):=by rw[h6.cell];rfl
   have Hfin:=zh (HB6.out.trans (t5.below HB6.out.size (fun i hi=>by omega)));rw[HN1.out];clear h5 h6 t5 HC;simp[Leaves,settle,results,Tryz.results14,go_sem,d0,d1,d2];exact⟨rfl,Hfin.out⟩
def PVA (w:World)(v:Value)(P:List (List Nat)):Prop:=∃a c,v=.slice a P.length c∧PgA w a P
theorem PV.pva {w:World}{v:Value}{P:List (List Nat)}(h:PV w v P):PVA w v P:=by
 obtain⟨a,c,rfl,h1,_⟩:=h.arg;exact⟨a,c,rfl,h1.pgw⟩
theorem PVA.ext {w w':World}{v:Value}{P:List (List Nat)}(h:PVA w v P)(hb:Below w.heap.size w w'):PVA w' v P:=by
 obtain⟨a,c,rfl,h1⟩:=h;exact⟨a,c,rfl,h1.below hb (zlr _)⟩
theorem q5v (u:Value)(P:List (List Nat))(root entries:Int)(w:World)(hP:PVA w u P)(hl:P.length≤1024)(hwo:z0x w)(he0:0≤entries)(he9:entries≤4096):
  Calls Tryz.prog 14 #[u,.int .i64 root,.int .i64 entries] w fun e w'=>LoQ w w' entries (z98 P root entries) e:=by
 obtain⟨a,c,rfl,h1⟩:=hP;exact x9w a P.length c P root entries w rfl hl h1 hwo he0 he9
theorem z63 (u:Value)(P:List (List Nat))(root:Int)(us:List Tr)(H L:Nat)(w:World)(hP:PVA w u P)(hl:P.length≤1024)(hwo:z0x w)(hL9:L≤4096)(hd:ldT P root=some (us,H))(hL:(esL us).length=L):
  Calls Tryz.prog 14 #[u,.int .i64 root,.int .i64 (L:Nat)] w fun e w'=>∃p,e=.returned (.tuple #[.agg #[.pointer p,.int .i64 (L:Nat)],.nilIface])∧z0y w' p us H∧Below w.heap.size w w':=by
 have h:=q5v u P root (L:Nat) w hP hl hwo (by omega) (by omega);rw[show z98 P root (L:Nat)=some (us,H) by unfold z98;rw[hd];simp only;rw[if_pos (by omega)]] at h;exact h
theorem x9x (u:Value)(P:List (List Nat))(root entries:Int)(w:World)(hP:PVA w u P)(hl:P.length≤1024)(hwo:z0x w)(he0:0≤entries)(he9:entries≤4096)(hd:z98 P root entries=none):
  Calls Tryz.prog 14 #[u,.int .i64 root,.int .i64 entries] w fun e w'=>e=.returned (.tuple #[.agg #[.pointer none,.int .i64 0],.iface 94 (.int .i64 16)])∧Below w.heap.size w w':=by
 have h:=q5v u P root entries w hP hl hwo he0 he9;rw[hd] at h;exact h
theorem x9y {ts:List Tr}{k:Nat}(hk:k≤1024)(hm:∀P,MixI P ts)(hu:uL ts=[])(hc:z0f ts≤cnt (z1j (z04 k) ts) 1024)(Z:List Nat):
  LieI (pgF (layP (List.replicate k Z) (wrL ts (takP (z04 k) ts)))) (layL ts (takP (z04 k) ts))∧(∀p∈uL (layL ts (takP (z04 k) ts)),2≤p∧p<k)∧∀x∈wrL ts (takP (z04 k) ts),2≤x.1∧x.1<k:=by
 have ht:∀p∈takP (z04 k) ts,2≤p∧p<k:=fun p hp=>by
  have h1:=z1y hp;have h2:decide ((p:Int)<(k:Int))=true:=h1.1;have:=of_decide_eq_true h2;exact⟨h1.2.1,by omega⟩
 have hf:=z5d hc;have hw:∀x∈wrL ts (takP (z04 k) ts),2≤x.1∧x.1<k:=fun x hx=>ht _ (by rw[←hf];exact List.mem_map_of_mem hx)
 have hul:∀p∈uL (layL ts (takP (z04 k) ts)),p∈takP (z04 k) ts:=fun p hp=>by
  rcases (x6b hc p).1 hp with h|h
  ·rw[hu] at h;cases h
  ·exact h
 have hnd:((wrL ts (takP (z04 k) ts)).map Prod.fst).Nodup:=by rw[hf];exact z7s
 refine⟨((hm _).laid hc (PL:=List.replicate 1024 []) List.length_replicate).congr (fun p hp=> ?_),fun p hp=>ht p (hul p hp),hw⟩;have h1:=hul p hp;rw[←hf] at h1;obtain⟨x,hx,rfl⟩:=List.mem_map.1 h1;have a:=y3a _ (List.replicate 1024 []) hnd (fun x hx=>by rw[List.length_replicate];have:=hw x hx;omega) x hx;have b:=y3a _ (List.replicate k Z) hnd (fun x hx=>by rw[List.length_replicate];exact(hw x hx).2) x hx;show(layP _ _).getD _ _=(layP _ _).getD _ _;rw[a,b]
abbrev keyA:ByteArray:=⟨#[97]⟩
structure OneL (V:ByteArray) (t:Tr):Prop where
 mi:∀P,MixI P [t]
 es:esL [t]=[⟨keyA,V,[]⟩]
 nd:z0f [t]=3
 u:uL [t]=[]
theorem OneL.c9 {V:ByteArray}{t:Tr}(h:OneL V t):z0f [t]≤cnt (z1j (z04 9) [t]) 1024:=by
 have:=y9x (ts:=[t]) 9 (by omega) (by omega) h.u;rw[h.nd];exact Nat.le_trans (by omega) (Nat.le_of_eq this.symm)
theorem x9z (V:ByteArray)(hV:V.size=700)(w:World):Calls Tryz.prog 25 #[.agg #[.pointer none,.int .i64 0],.string keyA,.string V] w fun e w'=>∃p t,e=.returned (.tuple #[.agg #[.pointer p,.int .i64 1],.nilIface])∧z0y w' p [t] 1∧OneL V t∧Below w.heap.size w w':=by
 have hk:okK keyA=true:=by decide
 obtain⟨h1,h2⟩:=q25 (es:=[]) (key:=keyA) (v:=V) hk (by omega) (by simp);refine(y23 none [] 0 keyA V w (z0y.none w) (by simp[esL])).mono ?_;rintro e w' ⟨p',ts',H',rfl,h4,h5,hb⟩;rw[show esL []=[] from rfl] at h5⊢
 rcases h5 with ⟨h5,_⟩|⟨_,h6⟩
 ·exact absurd h1 h5
 ·have e1:rep [] keyA [⟨keyA,V,[]⟩]=[(⟨keyA,V,[]⟩:En)]:=by simp[rep]
  have e2:esL ts'=[⟨keyA,V,[]⟩]:=by
   rcases h6 with ⟨h7,_⟩|⟨rfl,h7,_⟩
   ·rw[h7];exact e1
   ·cases h7
  have hch:∀e∈esL ts',e.ch=[]:=by rw[e2];simp
  have hpg:∀q,(pgsL ts').count q=0:=fun q=>by
   have h9:=h6.fr.pg q;rw[show pgsL []=[] from rfl,List.count_nil] at h9;omega
  rw[h1,e2]
  rcases z14 h4 with ⟨_,rfl,_⟩|⟨b,h,t,v,_,rfl,_,hnv,hz,hz3,hne,rfl⟩
  ·simp[esL] at e2
  ·obtain⟨W,_,hn,_⟩:=hnv.nd;have hk:=q50 h hn;have e3:t.es=[⟨keyA,V,[]⟩]:=by rw[←z1s];exact e2
   have h0:h=0:=by
    have h9:=y7u h hk hz3 (fun _=>hne);rw[e3] at h9
    rcases Nat.eq_zero_or_pos h with h8|h8
    ·exact h8
    ·have:=Nat.pow_le_pow_right (n:=2) (by omega) h8;simp only[List.length_singleton] at h9;omega
   subst h0;obtain⟨pg,es,rfl,_⟩:=hk;have hp0:pg=0:=Decidable.byContradiction fun hne=>by
    have h9:=hpg pg;simp[pgsL,Tr.pgs,hne] at h9
   have e4:es=[⟨keyA,V,[]⟩]:=e3;have hcn:cNs es=2:=by
    rw[e4];simp[cNs,cN,z3s,hV,nP]
   refine⟨p',.leaf pg es,rfl,h4,⟨fun P=>MixI.new hch hpg,e2,?_,x59 hch hpg⟩,hb⟩;rw[z40,Tr.need,if_pos hp0,hcn]
theorem OneL.lay {V:ByteArray}{t:Tr}(h:OneL V t):∃u ws,layL [t] (takP (z04 9) [t])=[u]∧wrL [t] (takP (z04 9) [t])=ws∧ws.length=3∧(∀x∈ws,2≤x.1∧x.1<9)∧LieI (pgF (layP (List.replicate 9 (List.replicate 512 0)) ws)) [u]∧(∀p∈uL [u],p<9)∧bare (esL [u])=[⟨keyA,V,[]⟩]:=by
 obtain⟨h1,h2,h3⟩:=x9y (k:=9) (by omega) h.mi h.u h.c9 (List.replicate 512 0);rw[show((9:Nat):Int)=9 from rfl] at h1 h2 h3;have e1:layL [t] (takP (z04 9) [t])=[layT t (takP (z04 9) [t])]:=by rw[layL,layL]
 have h4:=z51 [t] (takP (z04 9) [t]);rw[h.nd] at h4;have h5:=z4s [t] (takP (z04 9) [t]);rw[e1] at h1 h2 h5;refine⟨_,_,e1,rfl,h4,h3,h1,fun p hp=>(h2 p hp).2,?_⟩;rw[h5,h.es];rfl
theorem y59:blt keyA keyA=false:=by
 cases h:blt keyA keyA with
 | false=>rfl
 | true=>exact absurd h (by rw[z44 h];decide)
set_option maxRecDepth 100000 in
set_option maxHeartbeats 2000000 in
theorem z64 (w:World)(hg:Hg w)(hwo:z0x w)(hT:z56 w):
  Calls Tryz.prog 9 #[] w fun e w'=>e=.returned (.bool true)∧Below w.heap.size w w':=by
 obtain⟨W0,hmk,hrow,hb0⟩:=z5i (P:=Tryz.prog) w 46 5 Tryz.underlying46 q0n .i64 .i64 700 (by omega);have hcv:=z59 (P:=Tryz.prog) 46 5 9 Tryz.underlying46 Tryz.underlying5 Tryz.underlying9 (some ⟨w.heap.size,0,none⟩) 700 700 (List.replicate 700 0) (by rw[List.length_replicate]) W0 (z8w hrow);have hz7:(bstr (List.replicate 700 0)).size=700:=by rw[z58,List.length_replicate]
 generalize bstr (List.replicate 700 0)=V at*;have GQ:Hid (GF w W0):=GF.ext ⟨zbr w.heap.size w,hg,hwo,hT⟩ hb0;have Hput:=zh (x9z V hz7 W0);have e7:(V.size:Int)=700:=by omega
 rw[show((700:Nat):Int)=700 from rfl] at hmk;clear hg hwo hT hrow hb0 hz7
 go_enter Tryz.func9,Tryz.ntmps9
 go_wp2_with fail;refine(Hput.out).mono ?_;rintro e v1 ⟨p,t,rfl,htr,hone,hb⟩;replace GQ:=zh (GQ.out.ext hb);clear hb;obtain⟨u,ws,hu,hws,hw3,hwr,hlie,hlt,hbare⟩:=hone.lay;obtain⟨PL,hPL⟩:∃P,layP (List.replicate 9 (List.replicate 512 0)) ws=P:=⟨_,rfl⟩
 have hpl9:PL.length=9:=by rw[←hPL,z6y,List.length_replicate]
 rw[hPL] at hlie;have HX:=zh hone;have HTR:=zh htr;have HLi:=zh (zai hlie (zai hlt (zai hbare (zai hpl9 hPL))));have Hlw:=zh (zai hu (zai hws (zai hw3 hwr)));have HEl:Hid ((esL [u]).length=1):=by show _=_;rw[←z1p,hbare];rfl
 clear hone htr Hput hmk hcv hu hws hw3 hwr hlie hlt hbare hpl9 hPL;obtain⟨v2,hv2,hT,hb⟩:=z0b v1 TT #[.pointer p,.int .i64 1];replace GQ:=zh (GQ.out.ext hb);replace HTR:=zh (HTR.out.ext hb);have K1:Hid (TB v2 v1.heap.size p 1):=hT;have Hv2:=zh hv2;clear hv2 hT hb;have HL:Hid (∀w',Below v2.heap.size v2 w'→LayC p 1 (z04 9) .nilIface 1 [u] 1 ws w'):=fun w' hb=>by
  rw[←Hlw.out.1,←Hlw.out.2.1];exact y3g (fun _=> []) _ p [t] 1 1 w' (HTR.out.ext hb) (HX.out.mi _) (by rw[HX.out.es];rfl) (by omega) (HX.out.c9) (GQ.out.wo.below hb) (GQ.out.ta.below hb)
 go_upto_region 2 with fail
 rw[Hv2.out]
 go_cut [3,4,5] (fun su sw se wx=>∃(gU:Nat) (pU:Option Addr) (vU:Value),su=.pointer (some ⟨gU,0,none⟩)∧sw=vU∧se=.nilIface∧Hid (LR v2 wx gU pU 1 vU [u] 1 ws))
 case first=>as_aux_lemma=>
  obtain⟨u0,hu0,hc⟩:∃u,v2.drew=u∧Below v2.heap.size v2 u:=⟨_,rfl,(zbr _ _).drew⟩
  have hT0:=TB.ext K1.out hc;have hlt:=hT0.lt;have HU0:=zh hu0;have hz:u0.heap.size≤u0.heap.size:=zlr _;have q0:=fun w' (t:Turn (fun i=>u0.heap.size≤i) u0 w')=>(hT0.turn t (by omega)).c0
  have q1:=fun w' (t:Turn (fun i=>u0.heap.size≤i) u0 w')=>(hT0.turn t (by omega)).c1
  clear hu0;refine z0l (F:=fun i=>u0.heap.size≤i) (.rd 0 (.two 1 (.two 2 (.rd 3 (.rd 4 (.rd 5 (.rd 6 (.call 7 (.call 8 (.rd 9 (.rd 10 .done)))))))) 7 (.call 2 (.rd 3 (.rd 4 (.rd 5 (.rd 6 (.call 8 (.rd 9 (.rd 10 .done))))))))) 7 (.call 1 (.call 2 (.rd 3 (.rd 4 (.rd 5 (.rd 6 (.call 8 (.rd 9 (.rd 10 .done))))))))))) (by kernel_rfl) (by kernel_rfl) (by kernel_rfl) (by kernel_rfl) (fun _ _ _ _ _ h=>h) ?_;rw[HU0.out]
  (refine gsr (v:= ?_) rfl (by rfl) ?_ ?_;rotate_left;(intro w' hw';go_simp;with_reducible rfl);simp only[Act.put,zs0,zs1,zs2])
  clear q0 q1 hT0 hlt HU0;refine⟨?_,?_⟩
  ·refine gsc rfl (by rfl) (fun K hK=> ?_);go_simp;refine(z2u 9 _ (by omega)).mono ?_;rintro e uB ⟨rfl,hb⟩;refine hK _ _ (q5w hb) ?_;clear hK K;replace hc:=hc.trans (hb.mono hc.size);replace hz:=znt hz hb.size;clear hb;refine⟨?_,?_⟩
   ·refine gsc rfl (by rfl) (fun K hK=> ?_);go_simp;refine(HL.out _ hc).mono ?_;rintro e uL ⟨pU,vU,rfl,htr,hwv,hb⟩;refine hK _ _ (q5w hb) ?_;clear hK K;replace hc:=hc.trans (hb.mono hc.size);replace hz:=znt hz hb.size;clear hb;iterate 4 (refine gsr (v:= ?_) rfl (by rfl) ?_ ?_;rotate_left;(intro w' hw';go_simp;with_reducible rfl);simp only[Act.put,zs0,zs1,zs2])
    obtain⟨uA,hA0,hA,hb⟩:=z0b uL TT #[.pointer none,.int .i64 0];have HA0:=zh hA0;have hG:v2.heap.size≤uL.heap.size:=hc.size;have hG0:u0.heap.size≤uL.heap.size:=hz;replace hA:TB uA uL.heap.size none 0:=hA;clear hA0;refine gsc rfl (by rfl) (fun K hK=> ?_);go_simp;rw[HA0.out];refine hK _ _ (q5w hb) ?_;clear hK K;clear HA0;try simp only[Act.put,zs0,zs1,zs2]
    replace hc:=hc.trans (hb.mono hc.size);replace hz:=znt hz hb.size;replace htr:=htr.ext hb;replace hwv:=hwv.ext hb;clear hb;have c0:=hA.c0;have c1:=hA.c1;have f0:=hA.fz 0;have f1:=hA.fz 1;have hfin:=zh (LR.put (n:=1) hA hG htr hwv hc);have HT:Hid (Turn (fun i=>u0.heap.size≤i) uA ((uA.setCell ⟨uL.heap.size,0,none⟩ (.pointer pU)).setCell ⟨uL.heap.size,1,none⟩ (.int .i64 (1:Nat)))):=(z0m _ _ _ _).mono (fun i hi _=>by subst hi;exact hG0);refine gsc rfl (by rfl) (fun K hK=> ?_);go_simp;refine hK _ _ HT.out ?_;clear hK K c0 c1 f0 f1;iterate 2 (refine gsr (v:= ?_) rfl (by rfl) ?_ ?_;rotate_left;(intro w' hw';go_simp;with_reducible rfl);simp only[Act.put,zs0,zs1,zs2])
    refine z0a ?_;go_wp2;go_meet;exact⟨_,_,_,rfl,rfl,rfl,hfin⟩
   ·obtain⟨uA,hA0,hA,hb⟩:=z0b uB TT #[.pointer none,.int .i64 0];have HA0:=zh hA0;have hG:v2.heap.size≤uB.heap.size:=hc.size;have hG0:u0.heap.size≤uB.heap.size:=hz;replace hA:TB uA uB.heap.size none 0:=hA;clear hA0;refine gsc rfl (by rfl) (fun K hK=> ?_);go_simp;rw[HA0.out];refine hK _ _ (q5w hb) ?_;clear hK K;clear HA0;try simp only[Act.put,zs0,zs1,zs2]
    replace hc:=hc.trans (hb.mono hc.size);replace hz:=znt hz hb.size;clear hb;refine gsc rfl (by rfl) (fun K hK=> ?_);go_simp;refine(HL.out _ hc).mono ?_;rintro e uL ⟨pU,vU,rfl,htr,hwv,hb⟩;refine hK _ _ (q5w hb) ?_;clear hK K;replace hc:=hc.trans (hb.mono hc.size);replace hz:=znt hz hb.size;replace hA:=TB.ext hA hb;clear hb;iterate 4 (refine gsr (v:= ?_) rfl (by rfl) ?_ ?_;rotate_left;(intro w' hw';go_simp;with_reducible rfl);simp only[Act.put,zs0,zs1,zs2])
    have c0:=hA.c0;have c1:=hA.c1;have f0:=hA.fz 0;have f1:=hA.fz 1;have hfin:=zh (LR.put (n:=1) hA hG htr hwv hc);have HT:Hid (Turn (fun i=>u0.heap.size≤i) uL ((uL.setCell ⟨uB.heap.size,0,none⟩ (.pointer pU)).setCell ⟨uB.heap.size,1,none⟩ (.int .i64 (1:Nat)))):=(z0m _ _ _ _).mono (fun i hi _=>by subst hi;exact hG0);refine gsc rfl (by rfl) (fun K hK=> ?_);go_simp;refine hK _ _ HT.out ?_;clear hK K c0 c1 f0 f1;iterate 2 (refine gsr (v:= ?_) rfl (by rfl) ?_ ?_;rotate_left;(intro w' hw';go_simp;with_reducible rfl);simp only[Act.put,zs0,zs1,zs2])
    refine z0a ?_;go_wp2;go_meet;exact⟨_,_,_,rfl,rfl,rfl,hfin⟩
  ·obtain⟨uA,hA0,hA,hb⟩:=z0b u0 TT #[.pointer none,.int .i64 0];have HA0:=zh hA0;have hG:v2.heap.size≤u0.heap.size:=hc.size;have hG0:u0.heap.size≤u0.heap.size:=hz;replace hA:TB uA u0.heap.size none 0:=hA;clear hA0;refine gsc rfl (by rfl) (fun K hK=> ?_);go_simp;rw[HA0.out];refine hK _ _ (q5w hb) ?_;clear hK K;clear HA0;try simp only[Act.put,zs0,zs1,zs2]
   replace hc:=hc.trans (hb.mono hc.size);replace hz:=znt hz hb.size;clear hb;refine gsc rfl (by rfl) (fun K hK=> ?_);go_simp;refine(z2u 9 _ (by omega)).mono ?_;rintro e uB ⟨rfl,hb⟩;refine hK _ _ (q5w hb) ?_;clear hK K;replace hc:=hc.trans (hb.mono hc.size);replace hz:=znt hz hb.size;replace hA:=TB.ext hA hb;clear hb;refine gsc rfl (by rfl) (fun K hK=> ?_);go_simp;refine(HL.out _ hc).mono ?_;rintro e uL ⟨pU,vU,rfl,htr,hwv,hb⟩;refine hK _ _ (q5w hb) ?_;clear hK K;replace hc:=hc.trans (hb.mono hc.size);replace hz:=znt hz hb.size;replace hA:=TB.ext hA hb;clear hb;iterate 4 (refine gsr (v:= ?_) rfl (by rfl) ?_ ?_;rotate_left;(intro w' hw';go_simp;with_reducible rfl);simp only[Act.put,zs0,zs1,zs2])
   have c0:=hA.c0;have c1:=hA.c1;have f0:=hA.fz 0;have f1:=hA.fz 1;have hfin:=zh (LR.put (n:=1) hA hG htr hwv hc);have HT:Hid (Turn (fun i=>u0.heap.size≤i) uL ((uL.setCell ⟨u0.heap.size,0,none⟩ (.pointer pU)).setCell ⟨u0.heap.size,1,none⟩ (.int .i64 (1:Nat)))):=(z0m _ _ _ _).mono (fun i hi _=>by subst hi;exact hG0);refine gsc rfl (by rfl) (fun K hK=> ?_);go_simp;refine hK _ _ HT.out ?_;clear hK K c0 c1 f0 f1;iterate 2 (refine gsr (v:= ?_) rfl (by rfl) ?_ ?_;rotate_left;(intro w' hw';go_simp;with_reducible rfl);simp only[Act.put,zs0,zs1,zs2])
   refine z0a ?_;go_wp2;go_meet;exact⟨_,_,_,rfl,rfl,rfl,hfin⟩
 case rest=>
  obtain⟨gU,pU,vU,rfl,rfl,rfl,hU⟩:=hcut;have hb:=hU.out.b;have HU:=hU;clear hU;replace GQ:=zh (GQ.out.ext hb);replace HTR:=zh (HTR.out.ext hb);replace K1:=zh (TB.ext K1.out hb);clear hb;clear HL;obtain⟨va,vc,rfl,_⟩:=HU.out.wv.slice;rw[Hlw.out.2.2.1] at HU⊢
  go_wp2_with fail;refine(q0w 9 _ (by omega)).mono ?_;rintro e v3 ⟨bu,rfl,hpv,hb⟩;replace GQ:=zh (GQ.out.ext hb);replace HTR:=zh (HTR.out.ext hb);replace K1:=zh (TB.ext K1.out hb);replace HU:=zh (HU.out.ext hb);clear hb;have HPV:=zh hpv;clear hpv;go_wp2_with fail;refine(q3m bu _ _ ws _ HPV.out (by rw[List.length_replicate];omega) (by rw[List.length_replicate];omega) HU.out.wv (by rw[Hlw.out.2.2.1];omega) (fun x hx=>by rw[List.length_replicate];exact Hlw.out.2.2.2 x hx)).mono ?_;rintro e v4 ⟨lu,rfl,hpv,hb⟩;replace GQ:=zh (GQ.out.ext hb);replace HTR:=zh (HTR.out.ext hb);replace K1:=zh (TB.ext K1.out hb);replace HU:=zh (HU.out.ext hb);replace HPV:=zh (HPV.out.ext hb);clear hb;rw[HLi.out.2.2.2.2] at hpv;have HPL:=zh hpv.pva;have hld:ldT PL ((([u].headD (.leaf 0 [])).pg:Nat):Int)=some ([u],1):=y1l HU.out.tr HLi.out.1 (fun q hq=>by rw[HLi.out.2.2.2.1];exact HLi.out.2.1 q hq) (by rw[HLi.out.2.2.2.1];omega);obtain⟨R,hR⟩:∃R:Nat,([u].headD (.leaf 0 [])).pg=R:=⟨_,rfl⟩
  have CR:=zh (fun w ht=>z92 pU 1 [u] 1 w ht);rw[hR] at hld CR;have HLD:=zh hld;clear hpv hld hR;have c0:=HU.out.t.c0;have c1:=HU.out.t.c1;clear HPV;go_wp2_with fail;refine(CR.out _ HU.out.tr).mono ?_;rintro e v5 ⟨rfl,hb⟩;replace GQ:=zh (GQ.out.ext hb);replace HTR:=zh (HTR.out.ext hb);replace K1:=zh (TB.ext K1.out hb);replace HU:=zh (HU.out.ext hb);replace HPL:=zh (HPL.out.ext hb);clear hb;clear c0 c1;go_wp2_with fail;refine(z63 lu PL R [u] 1 1 _ HPL.out (by rw[HLi.out.2.2.2.1];omega) GQ.out.wo (by omega) HLD.out HEl.out).mono ?_;rintro e v6 ⟨px,rfl,htx,hb⟩;replace GQ:=zh (GQ.out.ext hb);replace HTR:=zh (HTR.out.ext hb);replace K1:=zh (TB.ext K1.out hb);replace HU:=zh (HU.out.ext hb);replace HPL:=zh (HPL.out.ext hb);clear hb;have HTX:=zh htx;clear htx;obtain⟨v7,hv7,hT,hb⟩:=z0b v6 TT #[.pointer px,.int .i64 1];replace GQ:=zh (GQ.out.ext hb);replace HTR:=zh (HTR.out.ext hb);replace K1:=zh (TB.ext K1.out hb);replace HU:=zh (HU.out.ext hb);replace HPL:=zh (HPL.out.ext hb);replace HTX:=zh (HTX.out.ext hb);have K7:Hid (TB v7 v6.heap.size px 1):=hT;have Hv7:=zh hv7;clear hv7 hT hb;have c0:=HU.out.t.c0;have c1:=HU.out.t.c1;rw[←Hv7.out] at c0 c1;go_wp2_with fail;rw[Hv7.out];refine(CR.out _ HU.out.tr).mono ?_;rintro e v8 ⟨rfl,hb⟩;replace GQ:=zh (GQ.out.ext hb);replace HTR:=zh (HTR.out.ext hb);replace K1:=zh (TB.ext K1.out hb);replace HU:=zh (HU.out.ext hb);replace HPL:=zh (HPL.out.ext hb);replace HTX:=zh (HTX.out.ext hb);replace K7:=zh (TB.ext K7.out hb);clear hb;clear c0 c1;go_wp2_with fail;have hno:z98 PL (R:Int) 2=none:=by unfold z98;rw[HLD.out];simp only;rw[if_neg (by rw[HEl.out];omega)]
  refine(x9x lu PL R 2 _ HPL.out (by rw[HLi.out.2.2.2.1];omega) GQ.out.wo (by omega) (by omega) hno).mono ?_;rintro e v9 ⟨rfl,hb⟩;replace GQ:=zh (GQ.out.ext hb);replace HTR:=zh (HTR.out.ext hb);replace K1:=zh (TB.ext K1.out hb);replace HU:=zh (HU.out.ext hb);replace HPL:=zh (HPL.out.ext hb);replace HTX:=zh (HTX.out.ext hb);replace K7:=zh (TB.ext K7.out hb);clear hb;clear hno;obtain⟨v10,hv10,hT,hb⟩:=z0b v9 TT #[.pointer none,.int .i64 0];replace GQ:=zh (GQ.out.ext hb);replace HTR:=zh (HTR.out.ext hb);replace K1:=zh (TB.ext K1.out hb);replace HU:=zh (HU.out.ext hb);replace HPL:=zh (HPL.out.ext hb);replace HTX:=zh (HTX.out.ext hb);replace K7:=zh (TB.ext K7.out hb);have K9:Hid (TB v10 v9.heap.size none 0):=hT;have Hv10:=zh hv10;clear hv10 hT hb;go_wp2_with fail;rw[Hv10.out];refine(z63 (.slice none 0 0) [] 0 [] 0 0 _ ⟨none,0,rfl,fun i hi=>by simp at hi⟩ (by simp) GQ.out.wo (by omega) (by unfold ldT;rw[if_pos rfl]) rfl).mono ?_;rintro e v11 ⟨py,rfl,hty,hb⟩;replace GQ:=zh (GQ.out.ext hb);replace HTR:=zh (HTR.out.ext hb);replace K1:=zh (TB.ext K1.out hb);replace HU:=zh (HU.out.ext hb);replace HPL:=zh (HPL.out.ext hb);replace HTX:=zh (HTX.out.ext hb);replace K7:=zh (TB.ext K7.out hb);replace K9:=zh (TB.ext K9.out hb);clear hb;clear hty;obtain⟨v12,hv12,hT,hb⟩:=z0b v11 TT #[.pointer py,.int .i64 0];replace GQ:=zh (GQ.out.ext hb);replace HTR:=zh (HTR.out.ext hb);replace K1:=zh (TB.ext K1.out hb);replace HU:=zh (HU.out.ext hb);replace HPL:=zh (HPL.out.ext hb);replace HTX:=zh (HTX.out.ext hb);replace K7:=zh (TB.ext K7.out hb);replace K9:=zh (TB.ext K9.out hb);have K11:Hid (TB v12 v11.heap.size py 0):=hT;have Hv12:=zh hv12;clear hv12 hT hb;have CG:=zh (fun w (ht:z0y w px [u] 1)=>q21 px 1 (bare (esL [u])) 1 keyA w ht.tp);rw[HLi.out.2.2.1,show getE [(⟨keyA,V,[]⟩:En)] keyA=V by simp[getE,isE,fE,ea,y59],show isE [(⟨keyA,V,[]⟩:En)] keyA=true by simp[isE,y59]] at CG;have c0:=K7.out.c0;have c1:=K7.out.c1;rw[←Hv12.out] at c0 c1;go_wp2_with fail;rw[Hv12.out];refine(CG.out _ HTX.out).mono ?_;rintro e v13 ⟨rfl,hb⟩;replace GQ:=zh (GQ.out.ext hb);replace HTR:=zh (HTR.out.ext hb);replace K1:=zh (TB.ext K1.out hb);replace HU:=zh (HU.out.ext hb);replace HPL:=zh (HPL.out.ext hb);replace HTX:=zh (HTX.out.ext hb);replace K7:=zh (TB.ext K7.out hb);replace K9:=zh (TB.ext K9.out hb);replace K11:=zh (TB.ext K11.out hb);clear hb;clear c0 c1 CG CR;have CE:=zh (fun w hg=>q0z (.iface 94 (.int .i64 16)) 16 w (q00 16) hg);have CU:=zh (fun w ht=>z8r _ px 1 [u] 1 w ht HLi.out.1.mix);have CV:=zh (fun w ht=>z8r _ pU 1 [u] 1 w ht HLi.out.1.mix);have CL:=zh (fun w=>y2x py 0 w);generalize addR (fun _=>false) (uL [u])=FU at*;go_wp2_with fail;refine z0n [(0,true),(1,true),(2,true),(3,true),(4,true),(5,true),(6,true),(7,true),(8,true),(9,true),(10,true),(11,true),(12,true),(13,true),(14,true),(15,true),(16,false),(17,true),(18,true),(19,true),(20,true),(21,true),(22,true),(23,true),(24,true),(25,true),(26,true),(27,true),(28,true),(30,true),(29,false),(31,false),(32,true),(33,true),(34,true),(35,true),(36,false),(37,true),(38,true),(39,true),(40,true),(41,true),(42,true),(43,true),(44,true)] (by kernel_rfl) (by kernel_rfl) (by kernel_rfl) (by kernel_rfl) (fun _ _ _ _ _ h=>h) ?_;obtain⟨ud,hud,hb⟩:∃u,v13.drew=u∧Below v13.heap.size v13 u:=⟨_,rfl,(zbr _ _).drew⟩
  rw[hud];replace GQ:=zh (GQ.out.ext hb);replace HTR:=zh (HTR.out.ext hb);replace K1:=zh (TB.ext K1.out hb);replace HU:=zh (HU.out.ext hb);replace HPL:=zh (HPL.out.ext hb);replace HTX:=zh (HTX.out.ext hb);replace K7:=zh (TB.ext K7.out hb);replace K9:=zh (TB.ext K9.out hb);replace K11:=zh (TB.ext K11.out hb);clear hb hud;iterate 16 (refine grr (v:= ?_) rfl (by rfl) ?_ ?_;rotate_left;(intro w' hw';go_simp;with_reducible rfl);simp only[Act.put,zs0,zs1,zs2])
  refine grc rfl (by rfl) (fun K hK=> ?_);go_simp;refine(CE.out ud GQ.out.g).mono ?_;rintro e v14 ⟨rfl,hb⟩;refine hK _ _ hb ?_;clear hK K;replace GQ:=zh (GQ.out.ext hb);replace HTR:=zh (HTR.out.ext hb);replace K1:=zh (TB.ext K1.out hb);replace HU:=zh (HU.out.ext hb);replace HPL:=zh (HPL.out.ext hb);replace HTX:=zh (HTX.out.ext hb);replace K7:=zh (TB.ext K7.out hb);replace K9:=zh (TB.ext K9.out hb);replace K11:=zh (TB.ext K11.out hb);clear hb;try simp only[Act.put,zs0,zs1,zs2]
  have qa0:=fun w' (h:Ext v14 w')=>(TB.ext (K7.out) h).c0
  have qa1:=fun w' (h:Ext v14 w')=>(TB.ext (K7.out) h).c1
  have qb0:=fun w' (h:Ext v14 w')=>(TB.ext (HU.out.t) h).c0
  have qb1:=fun w' (h:Ext v14 w')=>(TB.ext (HU.out.t) h).c1
  iterate 13 (refine grr (v:= ?_) rfl (by rfl) ?_ ?_;rotate_left;(intro w' hw';go_simp;with_reducible rfl);simp only[Act.put,zs0,zs1,zs2])
  clear qa0 qa1 qb0 qb1;refine grc rfl (by rfl) (fun K hK=> ?_);go_simp;refine(CU.out v14 HTX.out).mono ?_;rintro e v15 ⟨rfl,hb⟩;refine hK _ _ hb ?_;clear hK K;replace GQ:=zh (GQ.out.ext hb);replace HTR:=zh (HTR.out.ext hb);replace K1:=zh (TB.ext K1.out hb);replace HU:=zh (HU.out.ext hb);replace HPL:=zh (HPL.out.ext hb);replace HTX:=zh (HTX.out.ext hb);replace K7:=zh (TB.ext K7.out hb);replace K9:=zh (TB.ext K9.out hb);replace K11:=zh (TB.ext K11.out hb);clear hb;try simp only[Act.put,zs0,zs1,zs2]
  refine grc rfl (by rfl) (fun K hK=> ?_);go_simp;refine(CV.out v15 HU.out.tr).mono ?_;rintro e v16 ⟨rfl,hb⟩;refine hK _ _ hb ?_;clear hK K;replace GQ:=zh (GQ.out.ext hb);replace HTR:=zh (HTR.out.ext hb);replace K1:=zh (TB.ext K1.out hb);replace HU:=zh (HU.out.ext hb);replace HPL:=zh (HPL.out.ext hb);replace HTX:=zh (HTX.out.ext hb);replace K7:=zh (TB.ext K7.out hb);replace K9:=zh (TB.ext K9.out hb);replace K11:=zh (TB.ext K11.out hb);clear hb;try simp only[Act.put,zs0,zs1,zs2]
  have qa0:=fun w' (h:Ext v16 w')=>(TB.ext (K11.out) h).c0
  have qa1:=fun w' (h:Ext v16 w')=>(TB.ext (K11.out) h).c1
  refine grr (v:=.bool true) rfl (by rfl) (fun w' _=>x30 (.tmp 84) (.tmp 86) TS rfl FU FU (by rfl) (by rfl) rfl) ?_;simp only[Act.put,zs0,zs1,zs2];iterate 3 (refine grr (v:= ?_) rfl (by rfl) ?_ ?_;rotate_left;(intro w' hw';go_simp;with_reducible rfl);simp only[Act.put,zs0,zs1,zs2])
  clear qa0 qa1;refine grc rfl (by rfl) (fun K hK=> ?_);go_simp;refine(CL.out v16).mono ?_;rintro e v17 ⟨rfl,hb⟩;refine hK _ _ hb ?_;clear hK K;replace GQ:=zh (GQ.out.ext hb);replace HTR:=zh (HTR.out.ext hb);replace K1:=zh (TB.ext K1.out hb);replace HU:=zh (HU.out.ext hb);replace HPL:=zh (HPL.out.ext hb);replace HTX:=zh (HTX.out.ext hb);replace K7:=zh (TB.ext K7.out hb);replace K9:=zh (TB.ext K9.out hb);replace K11:=zh (TB.ext K11.out hb);clear hb;try simp only[Act.put,zs0,zs1,zs2]
  iterate 8 (refine grr (v:= ?_) rfl (by rfl) ?_ ?_;rotate_left;(intro w' hw';go_simp;with_reducible rfl);simp only[Act.put,zs0,zs1,zs2])
  refine z07 ?_;go_wp2;go_ret;exact⟨rfl,GQ.out.b⟩
end Go.Proofs.YtdnfhjfbanhhcaaGreatDoor
