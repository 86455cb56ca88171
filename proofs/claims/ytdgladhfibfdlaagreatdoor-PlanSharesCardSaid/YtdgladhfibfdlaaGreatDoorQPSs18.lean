/-
  Steps.
-/
import Derived.Test.YtdgladhfibfdlaaGreatDoorQPSs17
import Derived.Test.YtdgladhfibfdlaaGreatDoorQPSs14
import Derived.Test.YtdgladhfibfdlaaGreatDoorProg
import Derived.Deep.CutBlock
import Derived.Deep.DeepCutAuto
namespace Go.Proofs.YtdgladhfibfdlaaGreatDoor
open Go Go.RowKit Go.Proofs.Tryz
set_option maxRecDepth 100000
theorem Y0 (W:World)(vc vk vp:Value):∃g W',W.heap.size=g∧W.alloc (.cells #[.int .i64 0,vc,vk,vp] NT)=W'∧NP W' g 0 vc vk vp∧zB W W':=
 ⟨_,_,rfl,rfl,NP.new W 0 vc vk vp,(zbr _ _).alloc (zlr _) _⟩
theorem U5 (W:World)(T:TypeId)(vs:Array Value):∃g W',W.heap.size=g∧W.alloc (.cells vs T)=W'∧(∀i:Nat,W'.cell? ⟨g,i,none⟩=vs[i]?)∧zB W W':=
 ⟨_,_,rfl,rfl,fun i=>World.cell?_alloc_new W _ _ i,(zbr _ _).alloc (zlr _) _⟩
theorem z2x (b1 b2:Nat)(key:ByteArray)(e1 e2:List En)(w:World)(h1:y00 w b1 e1)(h2:y00 w b2 e2)(hl:e1.length+e2.length≤1000000):
  Calls prog 152 #[pt b1,.string key,pt b2] w fun e w'=>∃b,e=.returned (pt b)∧QG w' b 0 (e1++e2)∧zB w w':=by
 obtain⟨vc1,nb1,cv1⟩:=h1;obtain⟨x1,⟨a1,c1,rfl,s1,z1,_⟩,r1⟩:=cv1.raw;obtain⟨vc2,nb2,cv2⟩:=h2;obtain⟨x2,⟨a2,c2,rfl,s2,z2,_⟩,r2⟩:=cv2.raw;rw[←r1.len,←r2.len] at hl;have hi:=zh (Nq b1 _ _ w nb1);obtain⟨W,hW⟩:∃W,w.drew=W:=⟨_,rfl⟩
 have hbw:zB w W:=by rw[←hW];exact(zbr _ _).drew
 have q0:∀w',Ext W w'→w'.cell? ⟨b1,1,none⟩=some (.slice a1 x1.length c1):=fun w' hw=>((nb1.ext (hbw)).ext hw).c1
 have q1:∀w',Ext W w'→w'.cell? ⟨b2,1,none⟩=some (.slice a2 x2.length c2):=fun w' hw=>((nb2.ext (hbw)).ext hw).c1
 obtain⟨g3,W3,hg3,hW3,hc3,hb3⟩:=U5 W 91 #[.slice a1 x1.length c1,.slice a2 x2.length c2];have hb03:zB w W3:=hbw.trans (hb3.mono hbw.size);have hp:Oj Uw W3 g3 [x1,x2]:=fun i hi=>by
  rcases i with _|_|i
  ·exact⟨a1,c1,hc3 0,s1.below hb03 (zlr _),z1⟩
  ·exact⟨a2,c2,hc3 1,s2.below hb03 (zlr _),z2⟩
  ·exact absurd hi (by simp)
 have hcat:=z2o g3 2 2 [x1,x2] rfl W3 hp (by simp;omega) (by omega);rw[show[x1,x2].flatten=x1++x2 by simp] at hcat;have Hcat:=zh hcat;have HR:=zh (zai r1 r2);have Hb03:=zh hb03;have Hb3:=zh hb3;have HW:=zh hW;have HW3:=zh (zai hg3 hW3);clear r1 r2 cv1 cv2 hcat hb03 hp hc3 s1 s2 z1 z2 nb1 nb2 hW hg3 hW3 hb3 hbw;generalize x1.length=n1 at*;generalize x2.length=n2 at*
 go_enter func152,ntmps152
 go_wp2_with fail;refine hi.out.mono ?_;rintro e w' ⟨rfl,rfl⟩;go_wp2_with fail;refine rgr [(0,true),(1,true),(2,true),(3,true),(4,true),(5,true),(6,true),(7,true),(8,false),(9,false),(10,true),(11,false),(12,true)] (h:= ?_);rw[HW.out];iterate 8 (refine grr (v:= ?_) rfl (by rfl) ?_ ?_;rotate_left;(intro w' hw';go_simp;with_reducible rfl);simp only[Act.put,zs0,zs1,zs2])
 refine grc rfl (by rfl) (fun K hK=> ?_);go_simp;rw[HW3.out.1,HW3.out.2];refine hK _ _ Hb3.out ?_;clear hK K;refine grc rfl (by rfl) (fun K hK=> ?_);go_simp;refine Hcat.out.mono ?_;rintro e w4 ⟨v,rfl,⟨a4,c4,rfl,s4,r4⟩,hb4⟩;refine hK _ _ hb4 ?_;clear hK K;have Hb4:=zh (Hb03.out.trans (hb4.mono Hb03.out.size));have Hv:=zh (zai s4 r4);obtain⟨N,hN⟩:∃N,(x1++x2).length=N:=⟨_,rfl⟩
 have HN:=zh hN;rw[hN];clear s4 r4 hb4 hN
 (refine grr (v:= ?_) rfl (by rfl) ?_ ?_;rotate_left;(intro w' hw';go_simp;with_reducible rfl);simp only[Act.put,zs0,zs1,zs2])
 obtain⟨g5,W5,hg5,hW5,hnb5,hb5⟩:=Y0 w4 (.slice a4 N c4) Z0 Z0;have Hnb:=zh hnb5;have Hb5:=zh hb5;have HW5:=zh (zai hg5 hW5);clear hnb5 hb5 hg5 hW5;refine grc rfl (by rfl) (fun K hK=> ?_);go_simp;rw[HW5.out.1,HW5.out.2];refine hK _ _ Hb5.out ?_;clear hK K
 (refine grr (v:= ?_) rfl (by rfl) ?_ ?_;rotate_left;(intro w' hw';go_simp;with_reducible rfl);simp only[Act.put,zs0,zs1,zs2])
 refine Yq ?_;go_wp2_with fail;go_ret;exact⟨g5,rfl,⟨_,Hnb.out,x4s ⟨a4,c4,by rw[HN.out],Hv.out.1.below Hb5.out (zlr _),Hv.out.2⟩ ((HR.out.1.app HR.out.2).below (Hb4.out.trans (Hb5.out.mono Hb4.out.size)) (zlr _))⟩,Hb4.out.trans (Hb5.out.mono Hb4.out.size)⟩
theorem z2y (b1 b2:Nat)(key:ByteArray)(ks1 ks2:List ByteArray)(ps1 ps2:List Nat)(w:World)(h1:z2f w b1 ks1 ps1)(h2:z2f w b2 ks2 ps2)(h0:0<ps1.length)(hl:ks1.length+ks2.length≤100000)(hl2:ps1.length+ps2.length≤100000):
  Calls prog 152 #[pt b1,.string key,pt b2] w fun e w'=>∃b,e=.returned (pt b)∧K2 w' b 0 (ks1++key::ks2) (ps1++ps2)∧zB w w':=by
 obtain⟨vk1,vp1,nb1,⟨a1,c1,rfl,s1,z1,_⟩,⟨a2,c2,rfl,s2,z2,_⟩⟩:=h1;obtain⟨vk2,vp2,nb2,⟨a3,c3,rfl,s3,z3,_⟩,⟨a4,c4,rfl,s4,z4,_⟩⟩:=h2;have hi:=zh (Nx b1 _ _ _ _ _ w nb1 h0);obtain⟨W,hW⟩:∃W,w.drew=W:=⟨_,rfl⟩
 have HB:Hid (zB w W):=by rw[←hW];exact(zbr _ _).drew
 have q1:∀w',Zx (fun _=>False) W w'→w'.cell? ⟨b1,2,none⟩=some (.slice a1 ks1.length c1):=fun w' t=>((nb1.ext HB.out).ext (t.below (zlr _) (fun _ h=>h.elim))).c2
 have q2:∀w',Zx (fun _=>False) W w'→w'.cell? ⟨b1,3,none⟩=some (.slice a2 ps1.length c2):=fun w' t=>((nb1.ext HB.out).ext (t.below (zlr _) (fun _ h=>h.elim))).c3
 have q3:∀w',Zx (fun _=>False) W w'→w'.cell? ⟨b2,2,none⟩=some (.slice a3 ks2.length c3):=fun w' t=>((nb2.ext HB.out).ext (t.below (zlr _) (fun _ h=>h.elim))).c2
 have q4:∀w',Zx (fun _=>False) W w'→w'.cell? ⟨b2,3,none⟩=some (.slice a4 ps2.length c4):=fun w' t=>((nb2.ext HB.out).ext (t.below (zlr _) (fun _ h=>h.elim))).c3
 have S1:=zh s1;have S2:=zh s2;have S3:=zh s3;have S4:=zh s4;have Z:=zh (zai (zai z1 z2) (zai z3 z4));have HW:=zh hW;obtain⟨N,hN⟩:∃N,(ks1++key::ks2).length=N:=⟨_,rfl⟩
 obtain⟨M,hM⟩:∃M,(ps1++ps2).length=M:=⟨_,rfl⟩
 have HN:=zh (zai hN hM);obtain⟨n1,hn1⟩:∃n,ks1.length=n:=⟨_,rfl⟩
 obtain⟨n2,hn2⟩:∃n,ps1.length=n:=⟨_,rfl⟩
 obtain⟨n3,hn3⟩:∃n,ks2.length=n:=⟨_,rfl⟩
 obtain⟨n4,hn4⟩:∃n,ps2.length=n:=⟨_,rfl⟩
 have Hn:=zh (zai (zai hn1 hn2) (zai hn3 hn4));rw[hn1] at q1;rw[hn2] at q2;rw[hn3] at q3;rw[hn4] at q4;have Hl:Hid (ks1.length+ks2.length≤100000∧ps1.length+ps2.length≤100000):=⟨hl,hl2⟩
 clear s1 s2 s3 s4 z1 z2 z3 z4 nb1 nb2 hW hN hM hn1 hn2 hn3 hn4 h0 hl hl2
 go_enter func152,ntmps152
 go_wp2_with fail;refine hi.out.mono ?_;rintro e w' ⟨rfl,rfl⟩;clear hi;go_wp2_with fail;refine rgs (F:=fun _=>False) (.rd 0 (.rd 1 (.rd 2 (.rd 3 (.rd 4 (.rd 6 (.rd 7 (.rd 8 (.rd 9 (.rd 12 (.rd 13 (.rd 14 (.rd 15 (.rd 16 (.rd 17 (.rd 18 (.rd 19 (.two 5 (.two 10 (.two 11 (.call 20 (.call 21 (.rd 22 (.call 23 (.rd 24 .done))))) 20 (.call 11 (.call 21 (.rd 22 (.call 23 (.rd 24 .done)))))) 20 (.call 10 (.call 11 (.call 21 (.rd 22 (.call 23 (.rd 24 .done))))))) 20 (.call 5 (.call 10 (.call 11 (.call 21 (.rd 22 (.call 23 (.rd 24 .done))))))))))))))))))))))))) (h:= ?_);rw[HW.out];iterate 17 (refine gsr (v:= ?_) rfl (by rfl) ?_ ?_;rotate_left;(intro w' hw';go_simp;with_reducible rfl);simp only[Act.put,zs0,zs1,zs2])
 clear q1 q2 q3 q4 HW;refine⟨?_,?_⟩
 ·obtain⟨gA,WA,hgA,hwA,hcA,hbA⟩:=Y1 W 9 #[.string key];have HGA:=zh (zai hgA hwA);have HbA:=zh hbA;have HcA:=zh hcA;clear hgA hwA hcA hbA;replace HB:=zh (HB.out.trans (HbA.out.mono HB.out.size));have FA:Hid (ES V5 WA (some ⟨gA,0,none⟩) [key]):=ES.lit (E:=V5) (l:=[key]) HcA.out;refine gsc rfl (by rfl) (fun K hK=> ?_);go_simp;rw[HGA.out.1,HGA.out.2];refine hK _ _ (x3x HbA.out) ?_;clear hK K HGA HbA HcA;refine⟨?_,?_⟩
  ·obtain⟨gB,WB,hgB,hwB,hcB,hbB⟩:=U5 WA 92 #[.slice a1 n1 c1,.slice (some ⟨gA,0,none⟩) 1 1,.slice a3 n3 c3];have HGB:=zh (zai hgB hwB);have HbB:=zh hbB;have HcB:=zh hcB;clear hgB hwB hcB hbB;replace FA:=zh (FA.out.below HbB.out (zlr _));replace HB:=zh (HB.out.trans (HbB.out.mono HB.out.size));have FB:Hid (Oj V5 WB gB [ks1,[key],ks2]):=fun i hi=>by
    rcases i with _|_|_|i
    ·exact⟨a1,c1,by rw[HcB.out];show some (Value.slice a1 n1 c1)=some (Value.slice a1 ks1.length c1);rw[Hn.out.1.1],S1.out.below HB.out (zlr _),Z.out.1.1⟩
    ·exact⟨some ⟨gA,0,none⟩,1,by rw[HcB.out];rfl,FA.out,fun h=>by cases h⟩
    ·exact⟨a3,c3,by rw[HcB.out];show some (Value.slice a3 n3 c3)=some (Value.slice a3 ks2.length c3);rw[Hn.out.2.1],S3.out.below HB.out (zlr _),Z.out.2.1⟩
    ·exact absurd hi (by simp)
   refine gsc rfl (by rfl) (fun K hK=> ?_);go_simp;rw[HGB.out.1,HGB.out.2];refine hK _ _ (x3x HbB.out) ?_;clear hK K HGB HbB HcB;refine⟨?_,?_⟩
   ·have hcat:=N7 gB 3 3 [ks1,[key],ks2] rfl WB FB.out (by have:=Hl.out;simp;omega) (by omega);rw[show[ks1,[key],ks2].flatten=ks1++key::ks2 by simp] at hcat;have Hcat:=zh hcat;clear hcat;refine gsc rfl (by rfl) (fun K hK=> ?_);go_simp;refine Hcat.out.mono ?_;rintro e WC ⟨v,rfl,⟨xC,yC,rfl,sC,rC⟩,hbC⟩;refine hK _ _ (x3x hbC) ?_;clear hK K Hcat;rw[HN.out.1] at rC⊢
    have HbC:=zh hbC;have FC:=zh sC;have RC:=zh rC;clear hbC sC rC;replace FA:=zh (FA.out.below HbC.out (zlr _));replace HB:=zh (HB.out.trans (HbC.out.mono HB.out.size));clear HbC FB;obtain⟨gD,WD,hgD,hwD,hcD,hbD⟩:=U5 WC 93 #[.slice a2 n2 c2,.slice a4 n4 c4];have HGD:=zh (zai hgD hwD);have HbD:=zh hbD;have HcD:=zh hcD;clear hgD hwD hcD hbD;replace FA:=zh (FA.out.below HbD.out (zlr _));replace FC:=zh (FC.out.below HbD.out (zlr _));replace HB:=zh (HB.out.trans (HbD.out.mono HB.out.size));have FD:Hid (Oj V8 WD gD [ps1,ps2]):=fun i hi=>by
     rcases i with _|_|i
     ·exact⟨a2,c2,by rw[HcD.out];show some (Value.slice a2 n2 c2)=some (Value.slice a2 ps1.length c2);rw[Hn.out.1.2],S2.out.below HB.out (zlr _),Z.out.1.2⟩
     ·exact⟨a4,c4,by rw[HcD.out];show some (Value.slice a4 n4 c4)=some (Value.slice a4 ps2.length c4);rw[Hn.out.2.2],S4.out.below HB.out (zlr _),Z.out.2.2⟩
     ·exact absurd hi (by simp)
    refine gsc rfl (by rfl) (fun K hK=> ?_);go_simp;rw[HGD.out.1,HGD.out.2];refine hK _ _ (x3x HbD.out) ?_;clear hK K HGD HbD HcD;have hcat:=N6 gD 2 2 [ps1,ps2] rfl WD FD.out (by have:=Hl.out;simp;omega) (by omega);rw[show[ps1,ps2].flatten=ps1++ps2 by simp] at hcat;have Hcat:=zh hcat;clear hcat;refine gsc rfl (by rfl) (fun K hK=> ?_);go_simp;refine Hcat.out.mono ?_;rintro e WE ⟨v,rfl,⟨xE,yE,rfl,sE,rE⟩,hbE⟩;refine hK _ _ (x3x hbE) ?_;clear hK K Hcat;rw[HN.out.2] at rE⊢
    have HbE:=zh hbE;have FE:=zh sE;have RE:=zh rE;clear hbE sE rE;replace FA:=zh (FA.out.below HbE.out (zlr _));replace FC:=zh (FC.out.below HbE.out (zlr _));replace HB:=zh (HB.out.trans (HbE.out.mono HB.out.size));clear HbE FD
    (refine gsr (v:= ?_) rfl (by rfl) ?_ ?_;rotate_left;(intro w' hw';go_simp;with_reducible rfl);simp only[Act.put,zs0,zs1,zs2])
    obtain⟨gN,WN,hgN,hwN,hnb,hbN⟩:=Y0 WE Z0 (.slice xC N yC) (.slice xE M yE);have HGN:=zh (zai hgN hwN);have HbN:=zh hbN;have Hnb:=zh hnb;clear hgN hwN hbN hnb;replace FA:=zh (FA.out.below HbN.out (zlr _));replace FC:=zh (FC.out.below HbN.out (zlr _));replace FE:=zh (FE.out.below HbN.out (zlr _));replace HB:=zh (HB.out.trans (HbN.out.mono HB.out.size));refine gsc rfl (by rfl) (fun K hK=> ?_);go_simp;rw[HGN.out.1,HGN.out.2];refine hK _ _ (x3x HbN.out) ?_;clear hK K HGN HbN
    (refine gsr (v:= ?_) rfl (by rfl) ?_ ?_;rotate_left;(intro w' hw';go_simp;with_reducible rfl);simp only[Act.put,zs0,zs1,zs2])
    refine Zy ?_;go_wp2_with fail;go_ret;exact⟨gN,rfl,⟨_,_,Hnb.out,⟨xC,yC,by rw[HN.out.1],FC.out,by rw[HN.out.1];exact RC.out⟩,⟨xE,yE,by rw[HN.out.2],FE.out,by rw[HN.out.2];exact RE.out⟩⟩,HB.out⟩
   ·obtain⟨gD,WD,hgD,hwD,hcD,hbD⟩:=U5 WB 93 #[.slice a2 n2 c2,.slice a4 n4 c4];have HGD:=zh (zai hgD hwD);have HbD:=zh hbD;have HcD:=zh hcD;clear hgD hwD hcD hbD;replace FA:=zh (FA.out.below HbD.out (zlr _));replace FB:=zh (FB.out.below HbD.out (zlr _));replace HB:=zh (HB.out.trans (HbD.out.mono HB.out.size));have FD:Hid (Oj V8 WD gD [ps1,ps2]):=fun i hi=>by
     rcases i with _|_|i
     ·exact⟨a2,c2,by rw[HcD.out];show some (Value.slice a2 n2 c2)=some (Value.slice a2 ps1.length c2);rw[Hn.out.1.2],S2.out.below HB.out (zlr _),Z.out.1.2⟩
     ·exact⟨a4,c4,by rw[HcD.out];show some (Value.slice a4 n4 c4)=some (Value.slice a4 ps2.length c4);rw[Hn.out.2.2],S4.out.below HB.out (zlr _),Z.out.2.2⟩
     ·exact absurd hi (by simp)
    refine gsc rfl (by rfl) (fun K hK=> ?_);go_simp;rw[HGD.out.1,HGD.out.2];refine hK _ _ (x3x HbD.out) ?_;clear hK K HGD HbD HcD;have hcat:=N7 gB 3 3 [ks1,[key],ks2] rfl WD FB.out (by have:=Hl.out;simp;omega) (by omega);rw[show[ks1,[key],ks2].flatten=ks1++key::ks2 by simp] at hcat;have Hcat:=zh hcat;clear hcat;refine gsc rfl (by rfl) (fun K hK=> ?_);go_simp;refine Hcat.out.mono ?_;rintro e WC ⟨v,rfl,⟨xC,yC,rfl,sC,rC⟩,hbC⟩;refine hK _ _ (x3x hbC) ?_;clear hK K Hcat;rw[HN.out.1] at rC⊢
    have HbC:=zh hbC;have FC:=zh sC;have RC:=zh rC;clear hbC sC rC;replace FA:=zh (FA.out.below HbC.out (zlr _));replace FD:=zh (FD.out.below HbC.out (zlr _));replace HB:=zh (HB.out.trans (HbC.out.mono HB.out.size));clear HbC FB;have hcat:=N6 gD 2 2 [ps1,ps2] rfl WC FD.out (by have:=Hl.out;simp;omega) (by omega);rw[show[ps1,ps2].flatten=ps1++ps2 by simp] at hcat;have Hcat:=zh hcat;clear hcat;refine gsc rfl (by rfl) (fun K hK=> ?_);go_simp;refine Hcat.out.mono ?_;rintro e WE ⟨v,rfl,⟨xE,yE,rfl,sE,rE⟩,hbE⟩;refine hK _ _ (x3x hbE) ?_;clear hK K Hcat;rw[HN.out.2] at rE⊢
    have HbE:=zh hbE;have FE:=zh sE;have RE:=zh rE;clear hbE sE rE;replace FA:=zh (FA.out.below HbE.out (zlr _));replace FC:=zh (FC.out.below HbE.out (zlr _));replace HB:=zh (HB.out.trans (HbE.out.mono HB.out.size));clear HbE FD
    (refine gsr (v:= ?_) rfl (by rfl) ?_ ?_;rotate_left;(intro w' hw';go_simp;with_reducible rfl);simp only[Act.put,zs0,zs1,zs2])
    obtain⟨gN,WN,hgN,hwN,hnb,hbN⟩:=Y0 WE Z0 (.slice xC N yC) (.slice xE M yE);have HGN:=zh (zai hgN hwN);have HbN:=zh hbN;have Hnb:=zh hnb;clear hgN hwN hbN hnb;replace FA:=zh (FA.out.below HbN.out (zlr _));replace FC:=zh (FC.out.below HbN.out (zlr _));replace FE:=zh (FE.out.below HbN.out (zlr _));replace HB:=zh (HB.out.trans (HbN.out.mono HB.out.size));refine gsc rfl (by rfl) (fun K hK=> ?_);go_simp;rw[HGN.out.1,HGN.out.2];refine hK _ _ (x3x HbN.out) ?_;clear hK K HGN HbN
    (refine gsr (v:= ?_) rfl (by rfl) ?_ ?_;rotate_left;(intro w' hw';go_simp;with_reducible rfl);simp only[Act.put,zs0,zs1,zs2])
    refine Zy ?_;go_wp2_with fail;go_ret;exact⟨gN,rfl,⟨_,_,Hnb.out,⟨xC,yC,by rw[HN.out.1],FC.out,by rw[HN.out.1];exact RC.out⟩,⟨xE,yE,by rw[HN.out.2],FE.out,by rw[HN.out.2];exact RE.out⟩⟩,HB.out⟩
  ·obtain⟨gD,WD,hgD,hwD,hcD,hbD⟩:=U5 WA 93 #[.slice a2 n2 c2,.slice a4 n4 c4];have HGD:=zh (zai hgD hwD);have HbD:=zh hbD;have HcD:=zh hcD;clear hgD hwD hcD hbD;replace FA:=zh (FA.out.below HbD.out (zlr _));replace HB:=zh (HB.out.trans (HbD.out.mono HB.out.size));have FD:Hid (Oj V8 WD gD [ps1,ps2]):=fun i hi=>by
    rcases i with _|_|i
    ·exact⟨a2,c2,by rw[HcD.out];show some (Value.slice a2 n2 c2)=some (Value.slice a2 ps1.length c2);rw[Hn.out.1.2],S2.out.below HB.out (zlr _),Z.out.1.2⟩
    ·exact⟨a4,c4,by rw[HcD.out];show some (Value.slice a4 n4 c4)=some (Value.slice a4 ps2.length c4);rw[Hn.out.2.2],S4.out.below HB.out (zlr _),Z.out.2.2⟩
    ·exact absurd hi (by simp)
   refine gsc rfl (by rfl) (fun K hK=> ?_);go_simp;rw[HGD.out.1,HGD.out.2];refine hK _ _ (x3x HbD.out) ?_;clear hK K HGD HbD HcD;obtain⟨gB,WB,hgB,hwB,hcB,hbB⟩:=U5 WD 92 #[.slice a1 n1 c1,.slice (some ⟨gA,0,none⟩) 1 1,.slice a3 n3 c3];have HGB:=zh (zai hgB hwB);have HbB:=zh hbB;have HcB:=zh hcB;clear hgB hwB hcB hbB;replace FA:=zh (FA.out.below HbB.out (zlr _));replace FD:=zh (FD.out.below HbB.out (zlr _));replace HB:=zh (HB.out.trans (HbB.out.mono HB.out.size));have FB:Hid (Oj V5 WB gB [ks1,[key],ks2]):=fun i hi=>by
    rcases i with _|_|_|i
    ·exact⟨a1,c1,by rw[HcB.out];show some (Value.slice a1 n1 c1)=some (Value.slice a1 ks1.length c1);rw[Hn.out.1.1],S1.out.below HB.out (zlr _),Z.out.1.1⟩
    ·exact⟨some ⟨gA,0,none⟩,1,by rw[HcB.out];rfl,FA.out,fun h=>by cases h⟩
    ·exact⟨a3,c3,by rw[HcB.out];show some (Value.slice a3 n3 c3)=some (Value.slice a3 ks2.length c3);rw[Hn.out.2.1],S3.out.below HB.out (zlr _),Z.out.2.1⟩
    ·exact absurd hi (by simp)
   refine gsc rfl (by rfl) (fun K hK=> ?_);go_simp;rw[HGB.out.1,HGB.out.2];refine hK _ _ (x3x HbB.out) ?_;clear hK K HGB HbB HcB;have hcat:=N7 gB 3 3 [ks1,[key],ks2] rfl WB FB.out (by have:=Hl.out;simp;omega) (by omega);rw[show[ks1,[key],ks2].flatten=ks1++key::ks2 by simp] at hcat;have Hcat:=zh hcat;clear hcat;refine gsc rfl (by rfl) (fun K hK=> ?_);go_simp;refine Hcat.out.mono ?_;rintro e WC ⟨v,rfl,⟨xC,yC,rfl,sC,rC⟩,hbC⟩;refine hK _ _ (x3x hbC) ?_;clear hK K Hcat;rw[HN.out.1] at rC⊢
   have HbC:=zh hbC;have FC:=zh sC;have RC:=zh rC;clear hbC sC rC;replace FA:=zh (FA.out.below HbC.out (zlr _));replace FD:=zh (FD.out.below HbC.out (zlr _));replace HB:=zh (HB.out.trans (HbC.out.mono HB.out.size));clear HbC FB;have hcat:=N6 gD 2 2 [ps1,ps2] rfl WC FD.out (by have:=Hl.out;simp;omega) (by omega);rw[show[ps1,ps2].flatten=ps1++ps2 by simp] at hcat;have Hcat:=zh hcat;clear hcat;refine gsc rfl (by rfl) (fun K hK=> ?_);go_simp;refine Hcat.out.mono ?_;rintro e WE ⟨v,rfl,⟨xE,yE,rfl,sE,rE⟩,hbE⟩;refine hK _ _ (x3x hbE) ?_;clear hK K Hcat;rw[HN.out.2] at rE⊢
   have HbE:=zh hbE;have FE:=zh sE;have RE:=zh rE;clear hbE sE rE;replace FA:=zh (FA.out.below HbE.out (zlr _));replace FC:=zh (FC.out.below HbE.out (zlr _));replace HB:=zh (HB.out.trans (HbE.out.mono HB.out.size));clear HbE FD
   (refine gsr (v:= ?_) rfl (by rfl) ?_ ?_;rotate_left;(intro w' hw';go_simp;with_reducible rfl);simp only[Act.put,zs0,zs1,zs2])
   obtain⟨gN,WN,hgN,hwN,hnb,hbN⟩:=Y0 WE Z0 (.slice xC N yC) (.slice xE M yE);have HGN:=zh (zai hgN hwN);have HbN:=zh hbN;have Hnb:=zh hnb;clear hgN hwN hbN hnb;replace FA:=zh (FA.out.below HbN.out (zlr _));replace FC:=zh (FC.out.below HbN.out (zlr _));replace FE:=zh (FE.out.below HbN.out (zlr _));replace HB:=zh (HB.out.trans (HbN.out.mono HB.out.size));refine gsc rfl (by rfl) (fun K hK=> ?_);go_simp;rw[HGN.out.1,HGN.out.2];refine hK _ _ (x3x HbN.out) ?_;clear hK K HGN HbN
   (refine gsr (v:= ?_) rfl (by rfl) ?_ ?_;rotate_left;(intro w' hw';go_simp;with_reducible rfl);simp only[Act.put,zs0,zs1,zs2])
   refine Zy ?_;go_wp2_with fail;go_ret;exact⟨gN,rfl,⟨_,_,Hnb.out,⟨xC,yC,by rw[HN.out.1],FC.out,by rw[HN.out.1];exact RC.out⟩,⟨xE,yE,by rw[HN.out.2],FE.out,by rw[HN.out.2];exact RE.out⟩⟩,HB.out⟩
 ·obtain⟨gD,WD,hgD,hwD,hcD,hbD⟩:=U5 W 93 #[.slice a2 n2 c2,.slice a4 n4 c4];have HGD:=zh (zai hgD hwD);have HbD:=zh hbD;have HcD:=zh hcD;clear hgD hwD hcD hbD;replace HB:=zh (HB.out.trans (HbD.out.mono HB.out.size));have FD:Hid (Oj V8 WD gD [ps1,ps2]):=fun i hi=>by
   rcases i with _|_|i
   ·exact⟨a2,c2,by rw[HcD.out];show some (Value.slice a2 n2 c2)=some (Value.slice a2 ps1.length c2);rw[Hn.out.1.2],S2.out.below HB.out (zlr _),Z.out.1.2⟩
   ·exact⟨a4,c4,by rw[HcD.out];show some (Value.slice a4 n4 c4)=some (Value.slice a4 ps2.length c4);rw[Hn.out.2.2],S4.out.below HB.out (zlr _),Z.out.2.2⟩
   ·exact absurd hi (by simp)
  refine gsc rfl (by rfl) (fun K hK=> ?_);go_simp;rw[HGD.out.1,HGD.out.2];refine hK _ _ (x3x HbD.out) ?_;clear hK K HGD HbD HcD;obtain⟨gA,WA,hgA,hwA,hcA,hbA⟩:=Y1 WD 9 #[.string key];have HGA:=zh (zai hgA hwA);have HbA:=zh hbA;have HcA:=zh hcA;clear hgA hwA hcA hbA;replace FD:=zh (FD.out.below HbA.out (zlr _));replace HB:=zh (HB.out.trans (HbA.out.mono HB.out.size));have FA:Hid (ES V5 WA (some ⟨gA,0,none⟩) [key]):=ES.lit (E:=V5) (l:=[key]) HcA.out;refine gsc rfl (by rfl) (fun K hK=> ?_);go_simp;rw[HGA.out.1,HGA.out.2];refine hK _ _ (x3x HbA.out) ?_;clear hK K HGA HbA HcA;obtain⟨gB,WB,hgB,hwB,hcB,hbB⟩:=U5 WA 92 #[.slice a1 n1 c1,.slice (some ⟨gA,0,none⟩) 1 1,.slice a3 n3 c3];have HGB:=zh (zai hgB hwB);have HbB:=zh hbB;have HcB:=zh hcB;clear hgB hwB hcB hbB;replace FD:=zh (FD.out.below HbB.out (zlr _));replace FA:=zh (FA.out.below HbB.out (zlr _));replace HB:=zh (HB.out.trans (HbB.out.mono HB.out.size));have FB:Hid (Oj V5 WB gB [ks1,[key],ks2]):=fun i hi=>by
   rcases i with _|_|_|i
   ·exact⟨a1,c1,by rw[HcB.out];show some (Value.slice a1 n1 c1)=some (Value.slice a1 ks1.length c1);rw[Hn.out.1.1],S1.out.below HB.out (zlr _),Z.out.1.1⟩
   ·exact⟨some ⟨gA,0,none⟩,1,by rw[HcB.out];rfl,FA.out,fun h=>by cases h⟩
   ·exact⟨a3,c3,by rw[HcB.out];show some (Value.slice a3 n3 c3)=some (Value.slice a3 ks2.length c3);rw[Hn.out.2.1],S3.out.below HB.out (zlr _),Z.out.2.1⟩
   ·exact absurd hi (by simp)
  refine gsc rfl (by rfl) (fun K hK=> ?_);go_simp;rw[HGB.out.1,HGB.out.2];refine hK _ _ (x3x HbB.out) ?_;clear hK K HGB HbB HcB;have hcat:=N7 gB 3 3 [ks1,[key],ks2] rfl WB FB.out (by have:=Hl.out;simp;omega) (by omega);rw[show[ks1,[key],ks2].flatten=ks1++key::ks2 by simp] at hcat;have Hcat:=zh hcat;clear hcat;refine gsc rfl (by rfl) (fun K hK=> ?_);go_simp;refine Hcat.out.mono ?_;rintro e WC ⟨v,rfl,⟨xC,yC,rfl,sC,rC⟩,hbC⟩;refine hK _ _ (x3x hbC) ?_;clear hK K Hcat;rw[HN.out.1] at rC⊢
  have HbC:=zh hbC;have FC:=zh sC;have RC:=zh rC;clear hbC sC rC;replace FD:=zh (FD.out.below HbC.out (zlr _));replace FA:=zh (FA.out.below HbC.out (zlr _));replace HB:=zh (HB.out.trans (HbC.out.mono HB.out.size));clear HbC FB;have hcat:=N6 gD 2 2 [ps1,ps2] rfl WC FD.out (by have:=Hl.out;simp;omega) (by omega);rw[show[ps1,ps2].flatten=ps1++ps2 by simp] at hcat;have Hcat:=zh hcat;clear hcat;refine gsc rfl (by rfl) (fun K hK=> ?_);go_simp;refine Hcat.out.mono ?_;rintro e WE ⟨v,rfl,⟨xE,yE,rfl,sE,rE⟩,hbE⟩;refine hK _ _ (x3x hbE) ?_;clear hK K Hcat;rw[HN.out.2] at rE⊢
  have HbE:=zh hbE;have FE:=zh sE;have RE:=zh rE;clear hbE sE rE;replace FA:=zh (FA.out.below HbE.out (zlr _));replace FC:=zh (FC.out.below HbE.out (zlr _));replace HB:=zh (HB.out.trans (HbE.out.mono HB.out.size));clear HbE FD
  (refine gsr (v:= ?_) rfl (by rfl) ?_ ?_;rotate_left;(intro w' hw';go_simp;with_reducible rfl);simp only[Act.put,zs0,zs1,zs2])
  obtain⟨gN,WN,hgN,hwN,hnb,hbN⟩:=Y0 WE Z0 (.slice xC N yC) (.slice xE M yE);have HGN:=zh (zai hgN hwN);have HbN:=zh hbN;have Hnb:=zh hnb;clear hgN hwN hbN hnb;replace FA:=zh (FA.out.below HbN.out (zlr _));replace FC:=zh (FC.out.below HbN.out (zlr _));replace FE:=zh (FE.out.below HbN.out (zlr _));replace HB:=zh (HB.out.trans (HbN.out.mono HB.out.size));refine gsc rfl (by rfl) (fun K hK=> ?_);go_simp;rw[HGN.out.1,HGN.out.2];refine hK _ _ (x3x HbN.out) ?_;clear hK K HGN HbN
  (refine gsr (v:= ?_) rfl (by rfl) ?_ ?_;rotate_left;(intro w' hw';go_simp;with_reducible rfl);simp only[Act.put,zs0,zs1,zs2])
  refine Zy ?_;go_wp2_with fail;go_ret;exact⟨gN,rfl,⟨_,_,Hnb.out,⟨xC,yC,by rw[HN.out.1],FC.out,by rw[HN.out.1];exact RC.out⟩,⟨xE,yE,by rw[HN.out.2],FE.out,by rw[HN.out.2];exact RE.out⟩⟩,HB.out⟩
theorem yL (a:Option Addr)(n c:Nat)(cs:List Ce)(w:World)(hn:cs.length=n)(hs:z77 w a cs)(hl:n≤1000000)(hm:Rz cs):
  Calls prog 135 #[.slice a n c] w fun e w'=>e=.returned (.int .i64 ((Tj cs).length:Nat))∧zB w w':=by
 have Hs:=zh hs;have Hn:=zh hn;have Hm:=zh hm;have hv:=I9 (show n<18446744073709551616 by omega);have hv2:=Fq n w (by omega);have hL:Hid ((Tj cs).length=vs n+(Q6 cs).length):=by show _=_;rw[Gj,hn]
 clear hs hn hm;generalize (Tj cs).length=LL at*;generalize vs n=V at*
 go_enter func135,ntmps135
 go_wp2_with fail;refine hv2.mono ?_;rintro e w' ⟨rfl,rfl⟩;go_wp2_with fail
 go_loopw [3,12] (fun s i wr=>∃k t:Nat,s=.int .i64 t∧i=.int .i64 k∧k≤n∧t≤10+124*k∧Hid (t=V+z9o cs k)∧Hid (zB w wr)) (fun _ i _=>n-(intOf i).toNat)
 case atStart=>exact⟨0,V,rfl,rfl,by omega,by omega,rfl,zbr _ _⟩
 case round=>
  obtain⟨k,t,rfl,rfl,hk,ht,hts,hB⟩:=hrel
  by_cases hlt:k<n
  ·obtain⟨g,o,rfl,hcell⟩:=Hs.out.below hB.out (zlr _) (by rw[Hn.out];omega);obtain⟨q0,q1,q2,q3⟩:=hcell k (by rw[Hn.out];exact hlt);have hmay:=Hm.out k (by rw[Hn.out];exact hlt);have h1:=z9i hmay;have h2:=z4f hmay;have h3:=z9h hmay;have h4:=z9l hmay;have h5:Hid (t+Ej (ca cs k).k (ca cs k).n=V+z9o cs (k+1)):=by
    show _=_;rw[qZ cs k (by rw[Hn.out];exact hlt),KS hmay,hts.out];omega
   generalize ca cs k=y at*;obtain⟨x0,x1,x2,x3⟩:=y;dsimp only at q0 q1 q2 q3 h1 h2 h3 h4 h5;obtain⟨N,rfl⟩:=Int.eq_ofNat_of_zero_le h2;have hN:N≤2048:=by omega
   have hsz:=fun w=>Cy x0 N w (by omega) (by omega)
   generalize Ej x0 (N:Int)=Z at*;have hB2:Hid (zB w (wr.alloc (.cells #[.string x0,.string x1,.int .i64 (N:Int),.int .i64 x3] CT))):=hB.out.alloc hB.out.size _;clear hcell hmay hts;go_wp2_with fail;refine(hsz _).mono ?_;rintro e w' ⟨rfl,rfl⟩;go_wp2
   go_roundw
   case rel=>exact⟨k+1,t+Z,by go_num,by go_num,by omega,by omega,h5,hB2⟩
   case measure=>simp[intOf];omega
  ·obtain rfl:k=n:=by omega
   have h5:Hid (t=LL):=by show _=_;rw[hts.out,z4h cs k (by rw[Hn.out];exact zlr _),hL.out]
   clear hts hL;go_wp2;go_ret;exact⟨by rw[←h5.out];rfl,hB.out⟩
theorem z0n (a:Option Addr)(n c:Nat)(l:List Nat)(w:World)(hn:l.length=n)(hs:Src w a l)(hnc:n≤c)(hl:n≤1000000)(hc:c≤maxLen)(hb8:B8 l):
  Calls prog 112 #[.slice a n c] w fun e w'=>e=.returned (.tuple #[.int .i64 (dcN l),.string (dcV l),.int .i64 (dcE l)])∧zB w w':=by
 have hok:Hid (y7a l=true↔3≤n∧n≤504∧chP l≠1∧chP l<1024):=by
  show _↔_;unfold y7a E1 QF;rw[hn];simp;omega
 have hno:Hid (¬(3≤n∧n≤504∧chP l≠1∧chP l<1024)→dcN l=0∧dcV l=ByteArray.empty∧dcE l=3):=fun h=>by
  have h2:y7a l=false:=by rw[←Bool.not_eq_true];exact fun h3=>h (hok.out.1 h3)
  unfold dcN dcV dcE;rw[h2];exact⟨rfl,rfl,rfl⟩
 have hyes:Hid ((3≤n∧n≤504∧chP l≠1∧chP l<1024)→dcN l=(chP l:Nat)∧dcV l=Pj (l.drop 2)∧dcE l=0):=fun h=>by
  unfold dcN dcV dcE;rw[hok.out.2 h];exact⟨rfl,rfl,rfl⟩
 have hpl:=x1v hb8;generalize dcN l=N at*;generalize dcV l=V at*;generalize dcE l=E at*;clear hok
 by_cases k1:n<3
 ·have d1:decide ((n:Int)<3)=true:=zdt (by omega);have h1:=zh (hno.out (by omega));clear hno hyes hs hpl
  go_enter func112,ntmps112
  go_wp2
  go_ret3
  exact⟨by rw[h1.out.1,h1.out.2.1,h1.out.2.2];rfl,zbr _ _⟩
 have d1:decide ((n:Int)<3)=false:=zdf (by omega)
 by_cases k2:504<n
 ·have d2:decide (504<(n:Int))=true:=zdt (by omega);have d2':decide (504<n)=true:=zdt (by omega);have h1:=zh (hno.out (by omega));clear hno hyes hs hpl
  go_enter func112,ntmps112
  go_wp2
  go_ret3
  exact⟨by rw[h1.out.1,h1.out.2.1,h1.out.2.2];rfl,zbr _ _⟩
 have d2:decide (504<(n:Int))=false:=zdf (by omega);have d2':decide (504<n)=false:=zdf (by omega);obtain⟨b,o,rfl,hcs⟩:=hs (by omega);have q0:=hcs 0 (by omega);have q1:=hcs 1 (by omega);rw[Nat.add_zero] at q0;have hlt:=block_lt_of_cell q0;have r0:∀w',Ext w.drew w'→w'.cell? ⟨b,o,none⟩=some (.int .u8 ((l.getD 0 0:Nat):Int)):=fun w' hw=>by
  rw[((zbr w.heap.size w).drew.trans hw).cell (p:=⟨b,o,none⟩) hlt];exact q0
 have r1:∀w',Ext w.drew w'→w'.cell? ⟨b,o+1,none⟩=some (.int .u8 ((l.getD 1 0:Nat):Int)):=fun w' hw=>by
  rw[((zbr w.heap.size w).drew.trans hw).cell (p:=⟨b,o+1,none⟩) hlt];exact q1
 have hp2:Hid (chP l=l.getD 0 0*256+l.getD 1 0):=y9i (by omega);have hcv:Hid (∀w0,zB w w0→∀w',Ext w0.drew w'→(convert CBS x3i (.slice (some ⟨b,o+2,none⟩) (n-2) (c-2))).run prog w'=.ok (.string (Pj (l.drop 2))) w'):=fun w0 h0 w' hw=>
  ZD (P:=prog) CBS CU8 x3i underlying48 underlying5 underlying9 (some ⟨b,o+2,none⟩) (n-2) (c-2) (l.drop 2) (by rw[zld];omega) w' ((hcs.rest 2).below ((h0.drew).trans (hw.mono h0.size)) hlt).src
 have g0:=hb8.get 0;have g1:=hb8.get 1;generalize l.getD 0 0=x0 at*;generalize l.getD 1 0=x1 at*;generalize Pj (l.drop 2)=T at*;have hc':c≤9223372036854775807:=by unfold maxLen at hc;omega
 have y3:((256:Int)*(x0:Int))+(x1:Int)=((chP l:Nat):Int):=by rw[hp2.out];omega
 clear hcs hs hb8 q0 q1 hc hp2;generalize chP l=P at*;have i0:(0:Int)<(n:Int):=by omega
 have i0':0<n:=by omega
 have i1':1<n:=by omega
 have i2':2≤n:=by omega
 have i1:(1:Int)<(n:Int):=by omega
 have i2:(2:Int)≤(n:Int):=by omega
 have i3:¬c=2:=by omega
 have j0:IntKind.i64.wrap (x0:Int)=(x0:Int):=by rw[IntKind.wrap_i64];omega
 have j1:IntKind.i64.wrap (x1:Int)=(x1:Int):=by rw[IntKind.wrap_i64];omega
 have j2:IntKind.i64.wrap ((256:Int)*(x0:Int))=(256:Int)*(x0:Int):=by rw[IntKind.wrap_i64];omega
 have j3:IntKind.i64.wrap (P:Int)=(P:Int):=by rw[IntKind.wrap_i64];omega
 by_cases k3:P=1
 ·subst k3;have h1:=zh (hno.out (by omega));clear hno hyes hcv
  go_enter func112,ntmps112
  go_wp2_with fail;refine rgr [(0,true),(1,true),(2,true),(3,true),(4,true),(5,true),(6,true),(7,true),(8,true),(9,true),(10,true)] (h:= ?_);iterate 11 (refine grr (v:= ?_) rfl (by rfl) ?_ ?_;rotate_left;(intro w' hw';go_simp;with_reducible rfl);simp only[Act.put,zs0,zs1,zs2])
  refine Yq ?_;go_wp2
  go_ret3
  exact⟨by rw[h1.out.1,h1.out.2.1,h1.out.2.2];rfl,(zbr _ _).drew⟩
 have d3:((P:Int)==1)=false:=by rw[beq_eq_false_iff_ne];omega
 have d3':(P==1)=false:=by rw[beq_eq_false_iff_ne];omega
 by_cases k4:1023<P
 ·have d4:decide (1023<(P:Int))=true:=zdt (by omega);have d4':decide (1023<P)=true:=zdt (by omega);have h1:=zh (hno.out (by omega));clear hno hyes hcv
  go_enter func112,ntmps112
  go_wp2_with fail;refine rgr [(0,true),(1,true),(2,true),(3,true),(4,true),(5,true),(6,true),(7,true),(8,true),(9,true),(10,true)] (h:= ?_);iterate 11 (refine grr (v:= ?_) rfl (by rfl) ?_ ?_;rotate_left;(intro w' hw';go_simp;with_reducible rfl);simp only[Act.put,zs0,zs1,zs2])
  refine Yq ?_;go_wp2
  go_ret3
  exact⟨by rw[h1.out.1,h1.out.2.1,h1.out.2.2];rfl,(zbr _ _).drew⟩
 have d4:decide (1023<(P:Int))=false:=zdf (by omega);have d4':decide (1023<P)=false:=zdf (by omega);have h1:=zh (hyes.out (by omega));have hcv1:=zh (hcv.out w.drew (zbr _ _).drew);clear hno hyes hcv
 go_enter func112,ntmps112
 go_wp2_with fail;refine rgr [(0,true),(1,true),(2,true),(3,true),(4,true),(5,true),(6,true),(7,true),(8,true),(9,true),(10,true)] (h:= ?_);iterate 11 (refine grr (v:= ?_) rfl (by rfl) ?_ ?_;rotate_left;(intro w' hw';go_simp;with_reducible rfl);simp only[Act.put,zs0,zs1,zs2])
 refine Yq ?_;have hcv2:=hcv1.out;go_wp2_with fail;refine rgr [(0,true),(1,true),(2,true),(3,true),(4,true),(5,true),(6,true)] (h:= ?_);iterate 7 (refine grr (v:= ?_) rfl (by rfl) ?_ ?_;rotate_left;(intro w' hw';go_simp;with_reducible rfl);simp only[Act.put,zs0,zs1,zs2])
 refine Yq ?_;go_wp2
 go_ret3
 exact⟨by rw[h1.out.1,h1.out.2.1,h1.out.2.2];rfl,((zbr _ _).drew).drew⟩
def PB (w:World)(b:Nat)(T:TypeId)(u v:Value):Prop:=w.heap[b]? =some (.cells #[u,v] T (0,0))
theorem PB.c0 {w:World}{b:Nat}{T:TypeId}{u v:Value}(h:PB w b T u v):w.cell? ⟨b,0,none⟩=some u:=by
 have h':w.heap[b]? =_:=h;simp[World.cell?,h']
theorem PB.c1 {w:World}{b:Nat}{T:TypeId}{u v:Value}(h:PB w b T u v):w.cell? ⟨b,1,none⟩=some v:=by
 have h':w.heap[b]? =_:=h;simp[World.cell?,h']
theorem PB.fz {w:World}{b:Nat}{T:TypeId}{u v:Value}(h:PB w b T u v)(j:Nat):w.frozen? ⟨b,j,none⟩=false:=by
 have h':w.heap[b]? =_:=h;simp[World.frozen?,h']
theorem PB.lt {w:World}{b:Nat}{T:TypeId}{u v:Value}(h:PB w b T u v):b<w.heap.size:=(zag.1 h).1
theorem PB.new (w:World)(T:TypeId)(u v:Value):PB (w.alloc (.cells #[u,v] T)) w.heap.size T u v:=by
 show(w.heap.push _)[w.heap.size]? =_;rw[Array.getElem?_push_size]
theorem PB.below {w w':World}{b B:Nat}{T:TypeId}{u v:Value}(h:PB w b T u v)(hb:Below B w w')(hB:b<B):PB w' b T u v:=(hb.block b hB).trans h
theorem PB.ext {w w':World}{b:Nat}{T:TypeId}{u v:Value}(h:PB w b T u v)(hb:zB w w'):PB w' b T u v:=h.below hb h.lt
theorem PB.extD {w w':World}{b:Nat}{T:TypeId}{u v:Value}(h:PB w b T u v)(hb:Ext w.drew w'):PB w' b T u v:=h.below (B:=w.heap.size) ((zbr _ w).drew.trans hb) h.lt
theorem PB.stay {w:World}{b:Nat}{T:TypeId}{u v:Value}(h:PB w b T u v)(o:Obj):PB (w.alloc o) b T u v:=h.ext ((zbr _ _).alloc (zlr _) o)
theorem PB.turn {w w':World}{b:Nat}{T:TypeId}{u v:Value}{F:Nat→Prop}(h:PB w b T u v)(t:Zx F w w')(hF:¬F b):PB w' b T u v:=t.hg h hF
theorem PB.set0 {w:World}{b:Nat}{T:TypeId}{u v:Value}(h:PB w b T u v)(x:Value):PB (w.setCell ⟨b,0,none⟩ x) b T x v:=heap_setCell_same w b 0 _ _ _ h
theorem PB.set1 {w:World}{b:Nat}{T:TypeId}{u v:Value}(h:PB w b T u v)(x:Value):PB (w.setCell ⟨b,1,none⟩ x) b T u x:=heap_setCell_same w b 1 _ _ _ h
end Go.Proofs.YtdgladhfibfdlaaGreatDoor
