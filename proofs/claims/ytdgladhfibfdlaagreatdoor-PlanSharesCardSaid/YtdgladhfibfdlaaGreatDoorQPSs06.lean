/-
  Steps.
-/
import Derived.Test.YtdgladhfibfdlaaGreatDoorProg
import Derived.Test.YtdgladhfibfdlaaGreatDoorQPSs05
import Derived.Test.YtdgladhfibfdlaaGreatDoorQPSs04
import Derived.ProofKit
import Derived.OpenShut
import Derived.Shelf.GgClosure.Gives
import Derived.Outline
namespace Go.Proofs.YtdgladhfibfdlaaGreatDoor
open Go.RowKit Tryz
def stN (x:BitVec 32):Nat→BitVec 32
 | 0=>x
 | k+1=>st (stN x k)
theorem z84 (x:BitVec 32):IntKind.u32.wrap (4294967295-((x.toNat:Nat):Int))=(((~~~x).toNat:Nat):Int):=by
 have hx:=x.isLt;have hw:∀n:Int,IntKind.u32.wrap n=n%4294967296:=fun n=>by simp[IntKind.wrap,IntKind.bits,IntKind.signed]
 rw[y8c,hw];omega
theorem y8l (a:Nat)(ha:a<4294967296):bits .xor .u32 (a:Int) 2197175160=((a^^^2197175160:Nat):Int):=Nv a 2197175160 ha (by decide)
theorem QB (x:BitVec 32)(l:List Nat)(k:Nat)(h:k<l.length):run x (l.take (k+1))=byt (run x (l.take k)) (l.getD k 0):=by
 rw[qN l k h,z4a]
theorem z1v (s:BitVec 32)(a:Option Addr)(c:Nat)(l:List Nat)(w:World)(hb:B8 l)(hl:l.length≤9223372036854775807)(hsrc:Src w a l):
  Calls prog 37 #[.int .u32 (s.toNat:Nat),.slice a l.length c] w fun e w'=>e=.returned (.int .u32 ((YA s l).toNat:Nat))∧w=w':=by
 have Hs:=zh hsrc;clear hsrc;have hn:=z84 s;have hsl:s.toNat<4294967296:=by have:=s.isLt;omega
 have hnl:(~~~s).toNat<4294967296:=by have:=(~~~s).isLt;omega
 generalize hS:s.toNat=S at*;have HS:=zh hS;clear hS;generalize hT: ~~~s=t at*;have HT:=zh hT;clear hT
 go_enter func37,ntmps37
 go_wp2
 go_loop [5,6,7,8] (fun v i _ _=>∃(z:BitVec 32) (k:Nat),k≤l.length∧i=.int .i64 k∧v=.int .u32 (z.toNat:Nat)∧z=run t (l.take k)) (fun _ i _ _=>l.length-(intOf i).toNat)
 case atStart=>exact⟨t,0,Nat.zero_le _,rfl,rfl,rfl⟩
 case round=>
  obtain⟨z,k,hk,rfl,rfl,hz⟩:=hrel
  by_cases hlt:k<l.length
  ·obtain⟨b,o,rfl,hc⟩:=Hs.out (by omega);have hcell:=hc k hlt;have hx:=hb.get k;have hzl:z.toNat<4294967296:=by have:=z.isLt;omega
   have hstep:Hid (run t (l.take (k+1))=stN (z^^^BitVec.ofNat 32 (l.getD k 0)) 8):=by rw[QB _ _ _ hlt,←hz];rfl
   have hxor:=z4b z (l.getD k 0) hx;clear hc hz;generalize l.getD k 0=X at*;generalize z^^^BitVec.ofNat 32 X=y at*;generalize hZ:z.toNat=Z at*;have HZ:=zh hZ;clear hZ;go_wp2
   go_loop [5,7,8] (fun v i _=>∃(j:Nat),j≤8∧i=.int .i64 j∧v=.int .u32 ((stN y j).toNat:Nat)) (fun _ i _=>8-(intOf i).toNat)
   case atStart=>exact⟨0,Nat.zero_le _,rfl,rfl⟩
   case round=>
    obtain⟨j,hj,rfl,rfl⟩:=hrel
    by_cases hlj:j<8
    ·have hs:=y65 (stN y j);have hyl:(stN y j).toNat<4294967296:=by have:=(stN y j).isLt;omega
     have hp:=y8l ((stN y j).toNat/2) (by omega);have hh:(((stN y j).toNat/2:Nat):Int)=((stN y j).toNat:Int)/2:=by omega
     rw[hh] at hp;have Hs1:=zh (show(stN y (j+1)).toNat=(st (stN y j)).toNat from rfl)
     by_cases hodd:(stN y j).toNat%2=1
     ·rw[if_pos hodd] at hs;have hbit:(((stN y j).toNat:Int)%2==1)=true:=by rw[beq_iff_eq];omega
      have HS:=zh (Hs1.out.trans hs);have HH:=zh hh;clear hs hodd Hs1 hh;generalize (stN y j).toNat=Y at*;generalize Y/2^^^2197175160=V at*;go_wp2
      go_round
      case rel=>exact⟨j+1,by omega,by go_num,by rw[HS.out]⟩
      case measure=>simp[intOf];omega
     ·rw[if_neg hodd] at hs;have hbit:(((stN y j).toNat:Int)%2==1)=false:=by rw[beq_eq_false_iff_ne];omega
      have HS:=zh (Hs1.out.trans hs);have HH:=zh hh;clear hs hodd Hs1 hh hp;generalize (stN y j).toNat=Y at*;go_wp2
      go_round
      case rel=>exact⟨j+1,by omega,by go_num,by rw[HS.out,HH.out]⟩
      case measure=>simp[intOf];omega
    ·obtain rfl:j=8:=by omega
     have He:=zh (show stN y 8=run t (l.take (k+1)) from hstep.out.symm);clear hlj;generalize stN y 8=z' at*;go_wp2
     go_round
     case rel=>exact⟨z',k+1,by omega,by go_num,rfl,He.out⟩
     case measure=>simp[intOf];omega
  ·obtain rfl:k=l.length:=by omega
   have e:l.take l.length=l:=List.take_length;rw[e] at hz;clear e;have hm:=z84 z;have Hm:=zh (show(~~~z).toNat=(YA s l).toNat by rw[hz,←HT.out];rfl);have hzl:z.toNat<4294967296:=by have:=z.isLt;omega
   clear hz;generalize (~~~z).toNat=M at*;generalize z.toNat=Z at*;go_wp2;go_ret;exact⟨by rw[←Hm.out];rfl,rfl⟩
theorem z6k (b o c n t0 t1 t2 t3 m0 m1 m2 m3 M:Nat)(b0 b1 b2 b3:Bool)(hb0:((t0:Int)==(m0:Int))=b0)(hb1:((t1:Int)==(m1:Int))=b1)(hb2:((t2:Int)==(m2:Int))=b2)(hb3:((t3:Int)==(m3:Int))=b3)(w:World)(hl:n+4≤c)(hcm:c≤140737488355328)(hM:M<4294967296)(hm0:m0<256)
  (c0:w.cell? ⟨b,o+n,none⟩=some (.int .u8 t0)) (c1:w.cell? ⟨b,o+(n+1),none⟩=some (.int .u8 t1)) (c2:w.cell? ⟨b,o+(n+2),none⟩=some (.int .u8 t2)) (c3:w.cell? ⟨b,o+(n+3),none⟩=some (.int .u8 t3))
  (e0:(M:Int)/16777216=(m0:Int)) (e1:(M:Int)/65536%256=(m1:Int)) (e2:(M:Int)/256%256=(m2:Int)) (e3:(M:Int)%256=(m3:Int))
  (hm:Calls prog 37 #[.int .u32 0,.slice (some ⟨b,o,none⟩) n c] w fun e w'=>e=.returned (.int .u32 M)∧w=w'):
  Calls prog 143 #[.slice (some ⟨b,o,none⟩) (n+4:Nat) c] w fun e w'=>e=.returned (.bool (b0&&(b1&&(b2&&b3))))∧w=w':=by
 have h1:decide ((n:Int)+4<4)=false:=by simp;omega
 have H:=zh hm;clear hm
 go_enter func143,ntmps143
 go_wp2_with fail;refine H.out.mono ?_;rintro e w' ⟨rfl,rfl⟩;clear H
 cases b0
 ·go_wp2_with fail;go_ret;exact⟨rfl,rfl⟩
 cases b1
 ·go_wp2_with fail;go_ret;exact⟨rfl,rfl⟩
 cases b2
 ·go_wp2_with fail;go_ret;exact⟨rfl,rfl⟩
 ·go_wp2_with fail;go_ret;exact⟨rfl,rfl⟩
theorem z6l (t0 t1 t2 t3 M:Nat)(h1:t1<256)(h2:t2<256)(h3:t3<256)(hM:M<4294967296):
  (((t0:Int)==((M/16777216:Nat):Int))&&(((t1:Int)==((M/65536%256:Nat):Int))&&(((t2:Int)==((M/256%256:Nat):Int))&&((t3:Int)==((M%256:Nat):Int)))))=decide (((t0*256+t1)*256+t2)*256+t3=M):=by
 rw[Bool.eq_iff_iff];simp only[Bool.and_eq_true,beq_iff_eq,decide_eq_true_iff];constructor
 ·rintro⟨a,b,c,d⟩;omega
 ·intro h;subst h;refine⟨?_,?_,?_,?_⟩<;>omega
theorem z6m (b o c:Nat)(m t:List Nat)(w:World)(ht:t.length=4)(hl:m.length+4≤c)(hcm:c≤140737488355328)(hc:Cs w b o (m++t))(hb:B8 (m++t)):
  Calls prog 143 #[.slice (some ⟨b,o,none⟩) (m.length+4:Nat) c] w fun e w'=>e=.returned (.bool (decide (XZ t=(YA 0#32 m).toNat)))∧w=w':=by
 have hcm':Cs w b o m:=fun i hi=>by
  have:=hc i (by rw[zla];omega)
  rwa [show(m++t).getD i 0=m.getD i 0 by simp[List.getD,List.getElem?_append_left hi]] at this
 have hct:∀i,i<4→w.cell? ⟨b,o+(m.length+i),none⟩=some (.int .u8 ((t.getD i 0:Nat):Int)):=fun i hi=>by
  have:=hc (m.length+i) (by rw[zla];omega)
  rwa [show(m++t).getD (m.length+i) 0=t.getD i 0 by simp[List.getD,List.getElem?_append_right]] at this
 have hm:=z1v 0#32 (some ⟨b,o,none⟩) c m w (fun x hx=>hb x (List.mem_append_left _ hx)) (by omega) (fun _=>⟨b,o,rfl,hcm'⟩);have hM:(YA 0#32 m).toNat<4294967296:=by have:=(YA 0#32 m).isLt;omega
 have hb8:B8 t:=fun x hx=>hb x (List.mem_append_right _ hx)
 have hd:=z6l (t.getD 0 0) _ _ _ _ (hb8.get 1) (hb8.get 2) (hb8.get 3) hM;rw[z8z t ht,←hd];exact z6k b o c m.length _ _ _ _ _ _ _ _ _ _ _ _ _ rfl rfl rfl rfl w hl hcm hM (by omega) (by simpa using hct 0 (by omega)) (hct 1 (by omega)) (hct 2 (by omega)) (hct 3 (by omega))
  (by omega) (by omega) (by omega) (by omega) hm
end Go.Proofs.YtdgladhfibfdlaaGreatDoor
namespace Go.Proofs.YtdgladhfibfdlaaGreatDoor
open Go.RowKit Tryz
def vbF:Nat→Nat→List Nat
 | 0,v=> [v]
 | f+1,v=>if v<128 then [v] else (v%128+128)::vbF f (v/128)
def vb (v:Nat):List Nat:=vbF v v
theorem z85:∀f g v,v≤f→v≤g→vbF f v=vbF g v
 | 0,0,v,_,_=>rfl
 | 0,g+1,v,h,_=>by
  obtain rfl:v=0:=by omega
  simp[vbF]
 | f+1,0,v,_,h=>by
  obtain rfl:v=0:=by omega
  simp[vbF]
 | f+1,g+1,v,h1,h2=>by
  unfold vbF
  by_cases h:v<128
  ·rw[if_pos h,if_pos h]
  ·rw[if_neg h,if_neg h,z85 f g (v/128) (by omega) (by omega)]
theorem P9 {v:Nat}(h:v<128):vb v=[v]:=by
 unfold vb
 cases v with
 | zero=>rfl
 | succ n=>unfold vbF;rw[if_pos h]
theorem YC {v:Nat}(h:128≤v):vb v=(v%128+128)::vb (v/128):=by
 obtain⟨n,rfl⟩:∃n,v=n+1:=⟨v-1,by omega⟩
 show vbF (n+1) (n+1)=_::vbF _ _;rw[vbF,if_neg (by omega),z85 n ((n+1)/128) ((n+1)/128) (by omega) (zlr _)]
def vs (v:Nat):Nat:=(vb v).length
theorem Uj {v:Nat}(h:v<128):vs v=1:=by unfold vs;rw[P9 h];rfl
theorem Oq {v:Nat}(h:128≤v):vs v=vs (v/128)+1:=by unfold vs;rw[YC h];rfl
theorem O1 (v:Nat):1≤vs v:=by
 rcases zng v 128 with h|h
 ·rw[Uj h];exact zlr _
 ·rw[Oq h];omega
theorem y32 (v:Nat):B8 (vb v):=by
 induction v using Nat.strongRecOn with
 | _ v ih=>
  rcases zng v 128 with h|h
  ·rw[P9 h];exact B8.one (by omega)
  ·rw[YC h];intro x hx
   rcases List.mem_cons.1 hx with rfl|hx
   ·omega
   ·exact ih (v/128) (by omega) x hx
theorem D9:∀k v,v<128^k→1≤k→vs v≤k
 | 0,v,_,h=>by omega
 | k+1,v,h,_=>by
  rcases zng v 128 with hv|hv
  ·rw[Uj hv];omega
  ·rw[Oq hv];have hk:1≤k:=by
    cases k with
    | zero=>simp at h;omega
    | succ k=>omega
   have:=D9 k (v/128) (by rw[Nat.pow_succ] at h;omega) hk;omega
theorem I9 {v:Nat}(h:v<18446744073709551616):vs v≤10:=D9 10 v (by omega) (by omega)
theorem z86:∀u v,v≤u→vs v≤vs u:=by
 intro u
 induction u using Nat.strongRecOn with
 | _ u ih=>
  intro v h
  rcases zng v 128 with hv|hv
  ·rw[Uj hv];exact O1 u
  ·rw[Oq hv,Oq (show 128≤u by omega)];have:=ih (u/128) (by omega) (v/128) (by omega);omega
theorem x09:∀k v,v/2^k=1→vs v=k/7+1:=by
 intro k
 induction k using Nat.strongRecOn with
 | _ k ih=>
  intro v h;have hp:0<2^k:=Nat.pow_pos (by decide)
  rcases zng k 7 with hk|hk
  ·have hv:v<128:=by
    have h1:2^k≤2^6:=Nat.pow_le_pow_right (by decide) (by omega);have h2:=Nat.div_add_mod v (2^k);have h3:=Nat.mod_lt v hp;rw[h] at h2;omega
   rw[Uj hv];omega
  ·obtain⟨j,rfl⟩:∃j,k=j+7:=⟨k-7,by omega⟩
   have hj:v/128/2^j=1:=by
    rw[Nat.div_div_eq_div_mul,show 128*2^j=2^(j+7) by rw[Nat.pow_add];omega];exact h
   have hv:128≤v:=by
    rcases zng v 128 with h1|h1
    ·rw[Nat.div_eq_of_lt h1,Nat.zero_div] at hj;omega
    ·exact h1
   rw[Oq hv,ih j (by omega) _ hj];omega
theorem x1a (v:Nat):vs (v/2*2+1)=vs v:=by
 rcases zng v 128 with h|h
 ·rw[Uj h,Uj (by omega)]
 ·rw[Oq h,Oq (by omega),show(v/2*2+1)/128=v/128 by omega]
def Ny:List Nat→Nat
 | []=>0
 | x::r=>x%128+128*Ny r
theorem z87:∀l:List Nat,Ny l<128^l.length
 | []=>by simp[Ny]
 | x::r=>by
  have:=z87 r;rw[Ny,List.length_cons,Nat.pow_succ];have:128*(Ny r+1)≤128*128^r.length:=Nat.mul_le_mul_left _ this;omega
theorem qQ:∀(l:List Nat) (x:Nat),Ny (l++[x])=Ny l+x%128*128^l.length
 | [],x=>by simp[Ny]
 | y::r,x=>by
  rw[List.cons_append,Ny,Ny,qQ r x,List.length_cons,Nat.pow_succ,Nat.mul_add,Nat.mul_comm (128^r.length) 128,Nat.mul_left_comm 128];omega
theorem QC (l:List Nat)(k:Nat)(h:k<l.length):Ny (l.take (k+1))=Ny (l.take k)+l.getD k 0%128*128^k:=by
 have:l.take (k+1)=l.take k++[l.getD k 0]:=by
  rw[List.take_succ_eq_append_getElem h];simp[h]
 rw[this,qQ,zlk,Nat.min_eq_left (by omega)]
theorem qR (l:List Nat)(k:Nat):Ny (l.take k)<128^k:=by
 have h:=z87 (l.take k);exact Nat.lt_of_lt_of_le h (Nat.pow_le_pow_right (by decide) (by rw[zlk];omega))
def T6:List Nat→Nat
 | []=>0
 | x::r=>if x<128 then 0 else T6 r+1
theorem Jy:∀l i,i<T6 l→128≤l.getD i 0
 | [],i,h=>by simp[T6] at h
 | x::r,i,h=>by
  unfold T6 at h;split at h
  ·omega
  ·cases i with
   | zero=>simp;omega
   | succ i=>simpa using Jy r i (by omega)
theorem KP:∀l,T6 l<l.length→l.getD (T6 l) 0<128
 | [],h=>by simp[T6] at h
 | x::r,h=>by
  unfold T6 at h⊢
  split
  ·simpa
  ·rename_i hx
   rw[if_neg hx,List.length_cons] at h
   simpa using KP r (by omega)
theorem z88 {l:List Nat}{k:Nat}(hk:k≤T6 l)(h:k<l.length)(hc:128≤l.getD k 0):k+1≤T6 l:=by
 rcases zng k (T6 l) with h1|h1
 ·exact h1
 ·obtain rfl:k=T6 l:=by omega
  have:=KP l h;omega
theorem qS {l:List Nat}{k:Nat}(hk:k≤T6 l)(hc:l.getD k 0<128):T6 l=k:=by
 rcases zng k (T6 l) with h1|h1
 ·have:=Jy l k h1;omega
 ·omega
def gt (l:List Nat):Nat×Nat×Nat:=
 if 9≤T6 l∧1<l.getD 9 0 then (0,0,2)
 else if l.length≤T6 l then (0,0,6)
 else if 0<T6 l∧l.getD (T6 l) 0=0 then (0,0,3)
 else (Ny (l.take (T6 l+1)),T6 l+1,0)
theorem ZE {l:List Nat}(h:9≤T6 l)(h1:1<l.getD 9 0):gt l=(0,0,2):=by unfold gt;rw[if_pos ⟨h,h1⟩]
theorem y8m {l:List Nat}{k:Nat}(hk:k≤T6 l)(hl:k=l.length)(h9:k≤9):gt l=(0,0,6):=by
 have h0:l.getD 9 0=0:=by simp[show l.length≤9 by omega]
 unfold gt;rw[if_neg (by omega),if_pos (by omega)]
theorem y8n {l:List Nat}{k:Nat}(hk:k≤T6 l)(hl:k<l.length)(h9:k≤9)(hc:l.getD k 0=0)(h0:0<k):gt l=(0,0,3):=by
 have e:=qS hk (by omega);unfold gt;rw[e,if_neg (fun h=>by
  have:k=9:=by omega
  subst this;omega),if_neg (by omega),if_pos ⟨h0,hc⟩]
theorem z89 {l:List Nat}{k:Nat}(hk:k≤T6 l)(hl:k<l.length)(h9:k≤9)(hc:l.getD k 0<128)(h1:k=9→l.getD k 0≤1)(h0:0<k→l.getD k 0≠0):gt l=(Ny (l.take (k+1)),k+1,0):=by
 have e:=qS hk hc;unfold gt;rw[e,if_neg (fun h=>by
  have h9:k=9:=by omega
  have:=h1 h9;subst h9;omega),if_neg (by omega),if_neg (fun h=>h0 h.1 h.2)]
theorem y33 (l:List Nat):gt l=(0,0,2)∨gt l=(0,0,6)∨gt l=(0,0,3)∨gt l=(Ny (l.take (T6 l+1)),T6 l+1,0):=by
 unfold gt;split
 ·exact .inl rfl
 split
 ·exact .inr (.inl rfl)
 split
 ·exact .inr (.inr (.inl rfl))
 ·exact .inr (.inr (.inr rfl))
theorem y8o:∀v r,T6 (vb v++r)+1=vs v:=by
 intro v
 induction v using Nat.strongRecOn with
 | _ v ih=>
  intro r
  rcases zng v 128 with h|h
  ·rw[Uj h,P9 h];simp[T6,h]
  ·rw[Oq h,YC h,←ih (v/128) (by omega) r,List.cons_append,T6,if_neg (by omega)]
theorem x1b:∀v,Ny (vb v)=v:=by
 intro v
 induction v using Nat.strongRecOn with
 | _ v ih=>
  rcases zng v 128 with h|h
  ·rw[P9 h];simp[Ny];omega
  ·rw[YC h,Ny,ih (v/128) (by omega)];omega
theorem y8p:∀v,(vb v).getD (vs v-1) 0<128∧(1<vs v→(vb v).getD (vs v-1) 0≠0):=by
 intro v
 induction v using Nat.strongRecOn with
 | _ v ih=>
  rcases zng v 128 with h|h
  ·rw[Uj h,P9 h];exact⟨by simpa,fun h=>by omega⟩
  ·have:=ih (v/128) (by omega);have hp:=O1 (v/128);rw[Oq h,YC h];obtain⟨n,hn⟩:∃n,vs (v/128)=n+1:=⟨vs (v/128)-1,by omega⟩
   rw[hn] at this⊢
   simp only[Nat.add_sub_cancel,List.getD_cons_succ] at this⊢
   refine⟨this.1,fun _=> ?_⟩
   rcases Nat.eq_zero_or_pos n with h0|h0
   ·subst h0
    rcases Nat.lt_or_ge (v/128) 128 with h1|h1
    ·rw[P9 h1];simp;omega
    ·rw[Oq h1] at hn;have:=O1 (v/128/128);omega
   ·exact this.2 (by omega)
theorem x3c:∀k v,vs v=k+1→(vb v).getD k 0=v/128^k:=by
 intro k
 induction k with
 | zero=>
  intro v h
  rcases zng v 128 with h1|h1
  ·rw[P9 h1];simp
  ·rw[Oq h1] at h;have:=O1 (v/128);omega
 | succ k ih=>
  intro v h
  rcases zng v 128 with h1|h1
  ·rw[Uj h1] at h;omega
  ·rw[Oq h1] at h;rw[YC h1,List.getD_cons_succ,ih (v/128) (by omega),Nat.div_div_eq_div_mul,Nat.pow_succ,Nat.mul_comm 128]
theorem YD (l r:List Nat)(i:Nat)(h:i<l.length):(l++r).getD i 0=l.getD i 0:=by simp[List.getD,List.getElem?_append_left h]
theorem x3d (v:Nat)(r:List Nat)(h:v<18446744073709551616):gt (vb v++r)=(v,vs v,0):=by
 have hl:=y8o v r;have hs:=I9 h;have hp:=O1 v;have hlen:vs v=(vb v).length:=rfl;have hlast:=y8p v;have hd:(vb v++r).getD (T6 (vb v++r)) 0=(vb v).getD (vs v-1) 0:=by
  rw[YD _ _ _ (by omega),show T6 (vb v++r)=vs v-1 by omega]
 have hv:Ny ((vb v++r).take (T6 (vb v++r)+1))=v:=by
  rw[hl,hlen,List.take_left];exact x1b v
 rw[z89 (zlr _) (by rw[zla];omega) (by omega) (by rw[hd];exact hlast.1) (fun h9=> ?_) (fun h0=> ?_),hv,hl]
 ·rw[hd,show vs v-1=9 by omega,x3c 9 v (by omega)];omega
 ·rw[hd];exact hlast.2 (by omega)
theorem YE (l:List Nat):(gt l).1<18446744073709551616:=by
 unfold gt;split
 ·decide
 rename_i h1
 split
 ·decide
 rename_i h2
 split
 ·decide
 show Ny (l.take (T6 l+1))<_;rw[QC l (T6 l) (by omega)];have hlt:=qR l (T6 l);have hat:=KP l (by omega)
 rcases Nat.lt_or_ge (T6 l) 9 with h9|h9
 ·have hp:128^T6 l≤128^8:=Nat.pow_le_pow_right (by decide) (by omega);have:l.getD (T6 l) 0%128*128^T6 l≤127*128^T6 l:=Nat.mul_le_mul_right _ (by omega);omega
 ·have h10:T6 l=9:=by
   rcases zng 9 (T6 l) with h|h
   ·have:=Jy l 9 h;omega
   ·omega
  rw[h10] at hlt hat⊢
  have h3:l.getD 9 0≤1:=by omega
  have:l.getD 9 0%128*128^9≤1*128^9:=Nat.mul_le_mul_right _ (by omega);omega
end Go.Proofs.YtdgladhfibfdlaaGreatDoor
namespace Go.Proofs.YtdgladhfibfdlaaGreatDoor
open Go.RowKit Tryz
structure RS where
 l:List Nat
 wr:Bool
def KQ (S:RS):Nat×RS:=if S.l=[] then (0,⟨[],true⟩) else (S.l.getD 0 0,⟨S.l.drop 1,false⟩)
def X6 (S:RS)(most:Nat):Nat×RS:=if (gt S.l).2.2=0∧(gt S.l).1≤most then ((gt S.l).1,⟨S.l.drop (gt S.l).2.1,false⟩) else (0,⟨[],true⟩)
def Z9 (S:RS)(most:Nat):List Nat×RS:=
 if (X6 S most).2.wr=false∧(X6 S most).1≤(X6 S most).2.l.length then ((X6 S most).2.l.take (X6 S most).1,⟨(X6 S most).2.l.drop (X6 S most).1,false⟩) else ([],⟨[],true⟩)
def okS (S:RS):Bool:= !S.wr&&S.l.isEmpty
theorem z6n {S:RS}(h:S.l≠[]):KQ S=(S.l.getD 0 0,⟨S.l.drop 1,false⟩):=by unfold KQ;rw[if_neg h]
theorem Nu {S:RS}{most:Nat}(h:(gt S.l).2.2=0)(h2:(gt S.l).1≤most):X6 S most=((gt S.l).1,⟨S.l.drop (gt S.l).2.1,false⟩):=by unfold X6;rw[if_pos ⟨h,h2⟩]
theorem O2 {S:RS}{most:Nat}(h:¬((gt S.l).2.2=0∧(gt S.l).1≤most)):X6 S most=(0,⟨[],true⟩):=by unfold X6;rw[if_neg h]
theorem O3 {S:RS}{most:Nat}(h:(X6 S most).2.wr=false)(h2:(X6 S most).1≤(X6 S most).2.l.length):Z9 S most=((X6 S most).2.l.take (X6 S most).1,⟨(X6 S most).2.l.drop (X6 S most).1,false⟩):=by unfold Z9;rw[if_pos ⟨h,h2⟩]
theorem Ju {S:RS}{most:Nat}(h:¬((X6 S most).2.wr=false∧(X6 S most).1≤(X6 S most).2.l.length)):Z9 S most=([],⟨[],true⟩):=by unfold Z9;rw[if_neg h]
theorem z4d (l:List Nat)(h:(gt l).2.2=0):1≤(gt l).2.1∧(gt l).2.1≤l.length∧(gt l).2.1≤10:=by
 unfold gt at h⊢
 split
 ·rename_i h1;rw[if_pos h1] at h;simp at h
 rename_i h1;rw[if_neg h1] at h
 split
 ·rename_i h2;rw[if_pos h2] at h;simp at h
 rename_i h2;rw[if_neg h2] at h
 split
 ·rename_i h3;rw[if_pos h3] at h;simp at h
 have h9:T6 l≤9:=by
  rcases zng 9 (T6 l) with h4|h4
  ·have:=Jy l 9 h4;omega
  ·exact h4
 refine⟨?_,?_,?_⟩
 ·show 1≤T6 l+1;omega
 ·show T6 l+1≤l.length;omega
 ·show T6 l+1≤10;omega
theorem z9a (l:List Nat):(gt l).2.2≤6:=by
 rcases y33 l with h|h|h|h<;>rw[h]<;>simp
theorem x1c:gt []=(0,0,6):=by decide
theorem y34 (most:Nat){S:RS}(h:S.l=[]):X6 S most=(0,⟨[],true⟩):=O2 (by rw[h,x1c];simp)
theorem y8q {S:RS}{most:Nat}(h:(X6 S most).2.wr=true):X6 S most=(0,⟨[],true⟩):=by
 by_cases hc:(gt S.l).2.2=0∧(gt S.l).1≤most
 ·rw[Nu hc.1 hc.2] at h;simp at h
 ·exact O2 hc
theorem z9b {S:RS}{most:Nat}(h:(X6 S most).2.wr=false):X6 S most=((gt S.l).1,⟨S.l.drop (gt S.l).2.1,false⟩)∧(gt S.l).2.2=0∧(gt S.l).1≤most:=by
 by_cases hc:(gt S.l).2.2=0∧(gt S.l).1≤most
 ·exact⟨Nu hc.1 hc.2,hc⟩
 ·rw[O2 hc] at h;simp at h
theorem z1w (S:RS)(most:Nat):(X6 S most).1≤most:=by
 by_cases hc:(gt S.l).2.2=0∧(gt S.l).1≤most
 ·rw[Nu hc.1 hc.2];exact hc.2
 ·rw[O2 hc];exact Nat.zero_le _
theorem y8r (S:RS)(most:Nat):(X6 S most).1<18446744073709551616:=by
 by_cases hc:(gt S.l).2.2=0∧(gt S.l).1≤most
 ·rw[Nu hc.1 hc.2];exact YE _
 ·rw[O2 hc];decide
theorem KR (v most:Nat)(r:List Nat)(wr:Bool)(h:v<18446744073709551616)(hm:v≤most):X6 ⟨vb v++r,wr⟩ most=(v,⟨r,false⟩):=by
 have e:=x3d v r h;rw[Nu (by rw[e]) (by rw[e];exact hm),e];show(v,RS.mk ((vb v++r).drop (vb v).length) false)=_;rw[List.drop_left]
theorem QV (s r:List Nat)(wr:Bool)(most:Nat)(h:s.length<18446744073709551616)(hm:s.length≤most):Z9 ⟨vb s.length++(s++r),wr⟩ most=(s,⟨r,false⟩):=by
 have e:=KR s.length most (s++r) wr h hm;rw[O3 (by rw[e]) (by rw[e];simp),e];show((s++r).take s.length,RS.mk ((s++r).drop s.length) false)=_;rw[List.take_left,List.drop_left]
end Go.Proofs.YtdgladhfibfdlaaGreatDoor
namespace Go.Proofs.YtdgladhfibfdlaaGreatDoor
open Go Go.RowKit Tryz
structure BA (w:World) (v:Value) (l:List Nat):Prop where
 ex:∃a c,v=.slice a l.length c∧Src w a l∧l.length≤c∧c≤140737488355328
 b8:B8 l
def sa (ks:List ByteArray)(i:Nat):ByteArray:=ks.getD i ByteArray.empty
theorem z1x (ks:List ByteArray)(k:Nat)(h:k<ks.length):ks.take (k+1)=ks.take k++[sa ks k]:=by
 rw[List.take_succ_eq_append_getElem h];simp[sa,List.getD,h]
abbrev sv (ks:List ByteArray):List Value:=ks.map Value.string
theorem x1d (ks:List ByteArray)(i:Nat)(h:i<ks.length):(sv ks)[i]? =some (.string (sa ks i)):=by
 simp[sa,List.getD,h]
def TxS (w:World)(a:Option Addr)(ks:List ByteArray):Prop:=0<ks.length→∃g o,a=some ⟨g,o,none⟩∧∀i,i<ks.length→w.cell? ⟨g,o+i,none⟩=some (.string (sa ks i))
theorem TxS.below {w w':World}{a:Option Addr}{ks:List ByteArray}{B:Nat}(h:TxS w a ks)(hb:Below B w w')(hB:w.heap.size≤B):TxS w' a ks:=fun h0=>by
 obtain⟨g,o,rfl,hc⟩:=h h0;exact⟨g,o,rfl,fun i hi=>by rw[hb.cell (p:=⟨g,o+i,none⟩) (Nat.lt_of_lt_of_le (block_lt_of_cell (hc i hi)) hB)];exact hc i hi⟩
theorem TxS.nil (w:World)(a:Option Addr):TxS w a []:=fun h=>by cases h
def TxV (w:World)(v:Value)(ks:List ByteArray):Prop:=∃a c,v=.slice a ks.length c∧TxS w a ks∧(a=none→c=0)∧ks.length≤c∧c≤maxLen
theorem TxV.none (w:World):TxV w (.slice none 0 0) []:=⟨Option.none,0,rfl,TxS.nil _ _,fun _=>rfl,zlr _,by unfold maxLen;omega⟩
theorem H9 {w:World}{B E:Nat}{v:Value}{ks:List ByteArray}(h:w.ownsRow B E 1 v ks.length (sv ks)):TxV w v ks:=by
 have h':=h;obtain⟨_,h2⟩:=h
 rcases h2 with ⟨rfl,h0⟩|⟨g,cap,cur,rfl,hb,hg,hnc,hcm,_⟩
 ·have:ks=[]:=List.eq_nil_of_length_eq_zero h0;subst this;exact TxV.none w
 ·refine⟨_,cap,rfl,fun _=>⟨g,0,rfl,fun i hi=> ?_⟩,(fun h=>by cases h),hnc,hcm⟩;have:=h'.cellAt i (by omega);rw[Nat.zero_add];rw[x1d ks i hi] at this;exact this
theorem z9c:(prog.info? 9).map (fun i=>(i.zero,i.size,i.bytes))=some (some (.string ⟨#[]⟩),1,16):=by kernel_rfl
section
variable {P:Program} {w:World} {ops:Array Oper} {rest:List Oper} {o:Oper} {a:Act} {Q:Exit→Act→World→Prop}
theorem Gq (hgd:o.guard=none)(s x:Operand)(t:TypeId)
  (ho:o.op=.call {callee:=.builtin .append,args:= #[s,x],argTypes:= #[t,t]})
  (base:Nat) (e:TypeId) (ht:P.underlying t=some (.slice e)) (h2:(P.info? e).map (fun i=>(i.zero,i.size,i.bytes))=some (some (.string ⟨#[]⟩),1,16))
  (v:Value) (ks:List ByteArray) (hs:a.eval s=v) (hown:Hid (w.ownsRow base e 1 v ks.length (sv ks)))
  (g c:Nat) (y:ByteArray) (hx:a.eval x=.slice (some ⟨g,0,none⟩) 1 c) (hy:w.cell? ⟨g,0,none⟩=some (.string y))
  (hlen:(ks.length+1)*16≤140737488355328) (hbase:base≤w.heap.size)
  (h:∀v' w',Hid (w'.ownsRow base e 1 v' (ks++[y]).length (sv (ks++[y])))→Hid (w.grownBy w' v.ownBlock)→wpList P ops Q rest (a.put o.dst v') w'):
  wpList P ops Q (o::rest) a w:=by
 obtain⟨i0,hi,hz0,hz1,hz2⟩:=info_parts h2;refine Uz hgd s x t ho base e i0 (.string ⟨#[]⟩) 1 16 ht hi hz0 hz1 hz2 rfl (by decide) v ks.length (sv ks) hs hown.out ⟨g,0,none⟩ 1 c (sv [y]) hx rfl ?_ ?_ (by unfold maxLen;omega) hlen hbase ?_
 ·intro j u hj
  rcases j with _|j
  ·rw[U9,Nat.zero_add,hy,←hj];rfl
  ·cases hj
 ·intro u hu;simp only[sv,List.map_cons,List.map_nil,List.mem_singleton] at hu;subst hu;rfl
 ·intro v' w' hown' hg _;refine h v' w' ?_ hg;show w'.ownsRow _ _ _ _ _ _;have e1:sv (ks++[y])=sv ks++sv [y]:=List.map_append;rw[e1,zla];exact hown'
end
def ia (is:List Int)(i:Nat):Int:=is.getD i 0
theorem z1y (is:List Int)(k:Nat)(h:k<is.length):is.take (k+1)=is.take k++[ia is k]:=by
 rw[List.take_succ_eq_append_getElem h];simp[ia,List.getD,h]
abbrev iv (is:List Int):List Value:=is.map (Value.int .i64)
theorem x1e (is:List Int)(i:Nat)(h:i<is.length):(iv is)[i]? =some (.int .i64 (ia is i)):=by
 simp[ia,List.getD,h]
def PgS (w:World)(a:Option Addr)(is:List Int):Prop:=0<is.length→∃g o,a=some ⟨g,o,none⟩∧∀i,i<is.length→w.cell? ⟨g,o+i,none⟩=some (.int .i64 (ia is i))
theorem PgS.below {w w':World}{a:Option Addr}{is:List Int}{B:Nat}(h:PgS w a is)(hb:Below B w w')(hB:w.heap.size≤B):PgS w' a is:=fun h0=>by
 obtain⟨g,o,rfl,hc⟩:=h h0;exact⟨g,o,rfl,fun i hi=>by rw[hb.cell (p:=⟨g,o+i,none⟩) (Nat.lt_of_lt_of_le (block_lt_of_cell (hc i hi)) hB)];exact hc i hi⟩
theorem PgS.nil (w:World)(a:Option Addr):PgS w a []:=fun h=>by cases h
def PgV (w:World)(v:Value)(is:List Int):Prop:=∃a c,v=.slice a is.length c∧PgS w a is∧(a=none→c=0)∧is.length≤c∧c≤maxLen
theorem PgV.none (w:World):PgV w (.slice none 0 0) []:=⟨Option.none,0,rfl,PgS.nil _ _,fun _=>rfl,zlr _,by unfold maxLen;omega⟩
theorem Q5 {w:World}{B E:Nat}{v:Value}{is:List Int}(h:w.ownsRow B E 1 v is.length (iv is)):PgV w v is:=by
 have h':=h;obtain⟨_,h2⟩:=h
 rcases h2 with ⟨rfl,h0⟩|⟨g,cap,cur,rfl,hb,hg,hnc,hcm,_⟩
 ·have:is=[]:=List.eq_nil_of_length_eq_zero h0;subst this;exact PgV.none w
 ·refine⟨_,cap,rfl,fun _=>⟨g,0,rfl,fun i hi=> ?_⟩,(fun h=>by cases h),hnc,hcm⟩;have:=h'.cellAt i (by omega);rw[Nat.zero_add];rw[x1e is i hi] at this;exact this
theorem YF:(prog.info? 3).map (fun i=>(i.zero,i.size,i.bytes))=some (some (.int .i64 0),1,8):=by kernel_rfl
section
variable {P:Program} {w:World} {ops:Array Oper} {rest:List Oper} {o:Oper} {a:Act} {Q:Exit→Act→World→Prop}
theorem S7 (hgd:o.guard=none)(s x:Operand)(t:TypeId)
  (ho:o.op=.call {callee:=.builtin .append,args:= #[s,x],argTypes:= #[t,t]})
  (base:Nat) (e:TypeId) (ht:P.underlying t=some (.slice e)) (h2:(P.info? e).map (fun i=>(i.zero,i.size,i.bytes))=some (some (.int .i64 0),1,8))
  (v:Value) (is:List Int) (hs:a.eval s=v) (hown:Hid (w.ownsRow base e 1 v is.length (iv is)))
  (g c:Nat) (y:Int) (hx:a.eval x=.slice (some ⟨g,0,none⟩) 1 c) (hy:w.cell? ⟨g,0,none⟩=some (.int .i64 y))
  (hlen:(is.length+1)*8≤140737488355328) (hbase:base≤w.heap.size)
  (h:∀v' w',Hid (w'.ownsRow base e 1 v' (is++[y]).length (iv (is++[y])))→Hid (w.grownBy w' v.ownBlock)→wpList P ops Q rest (a.put o.dst v') w'):
  wpList P ops Q (o::rest) a w:=by
 obtain⟨i0,hi,hz0,hz1,hz2⟩:=info_parts h2;refine Uz hgd s x t ho base e i0 (.int .i64 0) 1 8 ht hi hz0 hz1 hz2 rfl (by decide) v is.length (iv is) hs hown.out ⟨g,0,none⟩ 1 c (iv [y]) hx rfl ?_ ?_ (by unfold maxLen;omega) hlen hbase ?_
 ·intro j u hj
  rcases j with _|j
  ·rw[U9,Nat.zero_add,hy,←hj];rfl
  ·cases hj
 ·intro u hu;simp only[iv,List.map_cons,List.map_nil,List.mem_singleton] at hu;subst hu;rfl
 ·intro v' w' hown' hg _;refine h v' w' ?_ hg;show w'.ownsRow _ _ _ _ _ _;have e1:iv (is++[y])=iv is++iv [y]:=List.map_append;rw[e1,zla];exact hown'
end
def pf (l:List Int)(k:Nat):Int:=(l.take k).sum
theorem J0 (l:List Int):pf l 0=0:=by simp[pf]
theorem Ez (l:List Int)(k:Nat):pf l (k+1)=pf l k+ia l k:=by
 unfold pf
 rcases zng k l.length with h|h
 ·rw[z1y l k h,List.sum_append];simp
 ·rw[List.take_of_length_le (by omega),zlw h];have:ia l k=0:=by unfold ia;simp[List.getD,h]
  omega
def okI (x:Int):Bool:=decide (0≤x)&&decide (x≤1024)
theorem Ou (x:Int):okI x=true↔0≤x∧x≤1024:=by unfold okI;simp
def xT (l:List Int)(k:Nat):Prop:=∀i,i<k→okI (ia l i)=true
theorem z9d {l:List Int}{k:Nat}(h:xT l k)(h1:okI (ia l k)=true):xT l (k+1):=fun i hi=>by
 rcases zng i k with h3|h3
 ·exact h i h3
 ·obtain rfl:i=k:=by omega
  exact h1
theorem Gx {l:List Int}{k n:Nat}(h:xT l n)(hk:k≤n):xT l k:=fun i hi=>h i (by omega)
theorem L8 {l:List Int}:∀{k:Nat},xT l k→0≤pf l k∧pf l k≤1024*k
 | 0,_=>by rw[J0];omega
 | k+1,h=>by
  have h1:=L8 (Gx h (Nat.le_succ k));have h2:=(Ou _).1 (h k (by omega));rw[Ez];omega
theorem z1z {l:List Int}{i:Nat}:∀{k:Nat},xT l k→i≤k→pf l i≤pf l k
 | 0,_,hi=>by
  obtain rfl:i=0:=by omega
  exact Int.le_refl _
 | k+1,h,hi=>by
  rcases zng i (k+1) with h3|h3
  ·have h1:=z1z (i:=i) (Gx h (Nat.le_succ k)) (by omega);have h2:=(Ou _).1 (h k (by omega));rw[Ez];omega
  ·obtain rfl:i=k+1:=by omega
   exact Int.le_refl _
def gr (l:List Int)(a:Nat):Int:=max (pf l a) (pf l l.length-pf l a)
def bst (l:List Int):Nat→Nat
 | 0=>1
 | k+1=>if gr l (k+2)<gr l (bst l k) then k+2 else bst l k
theorem YG (l:List Int):∀k,1≤bst l k∧bst l k≤k+1
 | 0=>by simp[bst]
 | k+1=>by
  have:=YG l k;unfold bst;split<;>omega
theorem qU (l:List Int):∀k a,1≤a→a≤k+1→gr l (bst l k)≤gr l a
 | 0,a,h1,h2=>by
  obtain rfl:a=1:=by omega
  exact Int.le_refl _
 | k+1,a,h1,h2=>by
  unfold bst
  rcases zng a (k+2) with h3|h3
  ·have:=qU l k a h1 (by omega);split<;>omega
  ·obtain rfl:a=k+2:=by omega
   split<;>omega
def z73 (l:List Int)(b:Int):Bool:=decide (2≤l.length)&&decide (l.length≤1024)&&okI b&&l.all okI
theorem y8s (l:List Int):l.all okI=true↔xT l l.length:=by
 rw[List.all_eq_true];constructor
 ·intro h i hi;have e:ia l i=l[i]:=by unfold ia;simp[List.getD,hi]
  rw[e];exact h _ (List.getElem_mem hi)
 ·intro h x hx;obtain⟨i,hi,rfl⟩:=List.mem_iff_getElem.1 hx;have e:ia l i=l[i]:=by unfold ia;simp[List.getD,hi]
  rw[←e];exact h i hi
theorem ZF (l:List Int)(b:Int):z73 l b=true↔2≤l.length∧l.length≤1024∧okI b=true∧xT l l.length:=by
 unfold z73;rw[Bool.and_eq_true,Bool.and_eq_true,Bool.and_eq_true,y8s,decide_eq_true_iff,decide_eq_true_iff];constructor
 ·rintro⟨⟨⟨h1,h2⟩,h3⟩,h4⟩;exact⟨h1,h2,h3,h4⟩
 ·rintro⟨h1,h2,h3,h4⟩;exact⟨⟨⟨h1,h2⟩,h3⟩,h4⟩
theorem y8t {l:List Int}{b:Int}(h:¬(2≤l.length∧l.length≤1024∧okI b=true∧xT l l.length)):z73 l b=false:=by
 rw[←Bool.not_eq_true,ZF];exact h
def spN (l:List Int)(b:Int):Int:=if z73 l b=true then (if 504<gr l (bst l (l.length-2))+b then 0 else (bst l (l.length-2):Nat)) else 0
def spE (l:List Int)(b:Int):Int:=if z73 l b=true then (if 504<gr l (bst l (l.length-2))+b then 5 else 0) else 1
theorem x1f {l:List Int}{b:Int}(h:z73 l b=false):spN l b=0∧spE l b=1:=by unfold spN spE;rw[h];exact⟨rfl,rfl⟩
theorem y8u {l:List Int}{b:Int}(h:z73 l b=true)(h2:504<gr l (bst l (l.length-2))+b):spN l b=0∧spE l b=5:=by
 unfold spN spE;rw[if_pos h,if_pos h,if_pos h2,if_pos h2];exact⟨rfl,rfl⟩
theorem y67 {l:List Int}{b:Int}(h:z73 l b=true)(h2:¬504<gr l (bst l (l.length-2))+b):spN l b=(bst l (l.length-2):Nat)∧spE l b=0:=by
 unfold spN spE;rw[if_pos h,if_pos h,if_neg h2,if_neg h2];exact⟨rfl,rfl⟩
theorem y35 {l:List Int}(h:xT l l.length)(hn:l.length≤1024)(a:Nat)(ha:a≤l.length):0≤gr l a∧gr l a≤1048576:=by
 have h1:=L8 (Gx h ha);have h2:=L8 h;have h3:=z1z h ha;unfold gr;omega
theorem qV {l:List Int}(hs:∀i,i<l.length→1≤ia l i∧ia l i≤112)(t:Int)(ht0:0≤t):∀k,k≤l.length→t≤pf l k→∃a,a≤k∧t≤pf l a∧pf l a<t+112∧(a=0∨pf l (a-1)<t)
 | 0,_,h=>⟨0,zlr _,h,by rw[J0] at h⊢;omega,.inl rfl⟩
 | k+1,hk,h=>by
  by_cases h1:t≤pf l k
  ·obtain⟨a,h2,h3⟩:=qV hs t ht0 k (by omega) h1;exact⟨a,by omega,h3⟩
  ·have h2:=hs k (by omega);have h3:=Ez l k;exact⟨k+1,zlr _,h,by omega,.inr (by rw[Nat.add_sub_cancel];omega)⟩
end Go.Proofs.YtdgladhfibfdlaaGreatDoor
namespace Go.Proofs.YtdgladhfibfdlaaGreatDoor
open Go.ChangeShapes Go.WideShapes Go.RowKit Tryz
theorem z9e:laidOutB prog=true:=by kernel_rfl
end Go.Proofs.YtdgladhfibfdlaaGreatDoor
namespace Go.Proofs.YtdgladhfibfdlaaGreatDoor
open Go.RowKit Go.Shelf Tryz
theorem z6o (k:Nat)(w:World)(hk:k<256):Calls prog 176 #[.int .u8 k] w fun e w'=>e=.returned (.bool (decide (1≤k∧k≤5)))∧w=w':=by
 by_cases h1:1≤k
 ·have d1:decide (1≤(k:Int))=true:=by simp;omega
  have d2:decide ((k:Int)≤5)=decide (1≤k∧k≤5):=by rw[Bool.eq_iff_iff];simp;omega
  generalize decide (1≤k∧k≤5)=D at*
  go_enter func176,ntmps176
  go_wp2;go_ret;exact⟨rfl,rfl⟩
 ·have d1:decide (1≤(k:Int))=false:=by simp;omega
  have d2:decide (1≤k∧k≤5)=false:=by simp;omega
  rw[d2]
  go_enter func176,ntmps176
  go_wp2;go_ret;exact⟨rfl,rfl⟩
end Go.Proofs.YtdgladhfibfdlaaGreatDoor
namespace Go.Proofs.YtdgladhfibfdlaaGreatDoor
open Go.RowKit Tryz
theorem x1g (a:Option Addr)(c:Nat)(l:List Nat)(v s:Nat)(w:World)(hl:l.length≤65536)(hs1:1≤s)(hs:s≤64)(hv:v<18446744073709551616)(hsrc:Src w a l):
  Calls prog 168 #[.slice a l.length c,.int .u64 v,.int .i64 s] w fun e w'=>e=.returned (.slice (some ⟨w.heap.size,0,none⟩) (l.length+s:Nat) (l.length+s:Nat))∧Row w' w.heap.size 5 (l++beL v s)∧zB w w':=by
 have Hsrc:=zh hsrc;clear hsrc;have d1:decide ((s:Int)<1)=false:=by simp;omega
 have d2:decide (64<(s:Int))=false:=by simp;omega
 go_enter func168,ntmps168
 go_wp2_with (first|(at_make;refine V6 rfl _ _ 48 rfl 5 underlying48 KC _ _ _ _ (l.length+s) rfl rfl (by omega) (by omega) (by omega) ?_;intro w1 hr1 hb1;have hs1':=zh (Hsrc.out.below hb1 (zlr _)))|(show wpList _ _ _ (⟨some 22,_,_,_,_,_⟩::_) _ _;refine Tq rfl (.tmp 20) (.tmp 21) 48 48 rfl 5 underlying48 I4 w.heap.size 0 (l.length+s) (l.length+s) a c (List.replicate (l.length+s) 0) l (by rfl) (by rfl) hr1 hs1'.out (by simp) (by omega) w.heap.size w hb1 (zlr _) ?_;intro w2 hr2 hb2;clear hr1 hs1' hb1))
 have Hr2:Hid (Row w2 w.heap.size 5 (Su l v s 0)):=by
  have:=hr2.out;rw[M7] at this;have e:l++List.drop l.length (List.replicate (l.length+s) 0)=Su l v s 0:=by
   unfold Su;rw[List.drop_replicate,Nat.add_sub_cancel_left];simp[beL]
  rw[e] at this;exact this
 clear hr2
 go_loopw [1,8] (fun V I wr=>∃(k:Nat) (i:Int),k≤s∧I=.int .i64 i∧i+k+1≤l.length+s∧(l.length:Int)+s≤i+k+1∧V=.int .u64 (v/256^k:Nat)∧Hid (Row wr w.heap.size 5 (Su l v s k))∧zB w wr) (fun _ I _=>(intOf I+1).toNat)
 case atStart=>exact⟨0,(l.length:Int)+s-1,Nat.zero_le _,rfl,by omega,by omega,by rw[Nat.pow_zero,Nat.div_one],Hr2,hb2⟩
 case round=>
  obtain⟨k,i,hk,rfl,hi1,hi2,rfl,hrow,hbel⟩:=hrel
  by_cases hlt:k<s
  ·obtain⟨j,rfl⟩:=Int.eq_ofNat_of_zero_le (show 0≤i by omega);have hj:j+k+1=l.length+s:=by omega
   have hcell:=hrow.out.cell j (by rw[I8 _ _ _ _ hk];omega);have hfr:=hrow.out.frozen j;have hset:=zh ((hrow.out.set j (v/256^k%256)));rw[QP l v s k j hlt hj] at hset;have hV:v/256^k<18446744073709551616:=Nat.lt_of_le_of_lt (Nat.div_le_self _ _) hv;have hnext:=zh (show v/256^(k+1)=v/256^k/256 by rw[Nat.pow_succ,Nat.div_div_eq_div_mul]);have Hj:=zh hj;clear hj hrow;generalize v/256^k=V at*;generalize (Su l v s k).getD j 0=X at*;go_wp2
   go_roundw
   case rel=>exact⟨k+1,(j:Int)-1,by omega,rfl,by omega,by omega,by rw[hnext.out];rfl,hset,hbel.setCell (zlr _) _⟩
   case measure=>simp[intOf]
  ·obtain rfl:k=s:=by omega
   have hlast:=hrow.out;have e:Su l v k k=l++beL v k:=by unfold Su;simp
   rw[e] at hlast;have Hlast:=zh hlast;clear hlast hrow e;generalize v/256^k=V at*;go_wp2;go_ret;exact⟨rfl,Hlast.out,hbel⟩
end Go.Proofs.YtdgladhfibfdlaaGreatDoor
namespace Go.Proofs.YtdgladhfibfdlaaGreatDoor
open Go.RowKit Tryz
theorem x1h:(prog.info? 5).map (fun i=>(i.zero,i.size,i.bytes))=some (some (.int .u8 0),1,1):=by kernel_rfl
theorem x3e:(prog.info? 5).map (·.size)=some 1:=by kernel_rfl
theorem YH (a:Option Addr)(c:Nat)(l:List Nat)(v s:Nat)(w:World)(hl:l.length≤65536)(hs1:1≤s)(hs:s≤64)(hv:v<18446744073709551616)(hsrc:Src w a l):
  Calls prog 168 #[.slice a l.length c,.int .u64 v,.int .i64 s] w fun e w'=>e=.returned (.slice (some ⟨w.heap.size,0,none⟩) (l.length+s:Nat) (l.length+s:Nat))∧Row w' w.heap.size 5 (l++beL v s)∧zB w w':=by
 have Hsrc:=zh hsrc;clear hsrc;have d1:decide ((s:Int)<1)=false:=by simp;omega
 have d2:decide (64<(s:Int))=false:=by simp;omega
 go_enter func168,ntmps168
 go_wp2_with (first|(at_make;refine V6 rfl _ _ 48 rfl 5 underlying48 x1h _ _ _ _ (l.length+s) rfl rfl (by omega) (by omega) (by omega) ?_;intro w1 hr1 hb1;have hs1':=zh (Hsrc.out.below hb1 (zlr _)))|(show wpList _ _ _ (⟨some 22,_,_,_,_,_⟩::_) _ _;refine Tq rfl (.tmp 20) (.tmp 21) 48 48 rfl 5 underlying48 x3e w.heap.size 0 (l.length+s) (l.length+s) a c (List.replicate (l.length+s) 0) l (by rfl) (by rfl) hr1 hs1'.out (by simp) (by omega) w.heap.size w hb1 (zlr _) ?_;intro w2 hr2 hb2;clear hr1 hs1' hb1))
 have Hr2:Hid (Row w2 w.heap.size 5 (Su l v s 0)):=by
  have:=hr2.out;rw[M7] at this;have e:l++List.drop l.length (List.replicate (l.length+s) 0)=Su l v s 0:=by
   unfold Su;rw[List.drop_replicate,Nat.add_sub_cancel_left];simp[beL]
  rw[e] at this;exact this
 clear hr2
 go_loopw [1,8] (fun V I wr=>∃(k:Nat) (i:Int),k≤s∧I=.int .i64 i∧i+k+1≤l.length+s∧(l.length:Int)+s≤i+k+1∧V=.int .u64 (v/256^k:Nat)∧Hid (Row wr w.heap.size 5 (Su l v s k))∧zB w wr) (fun _ I _=>(intOf I+1).toNat)
 case atStart=>exact⟨0,(l.length:Int)+s-1,Nat.zero_le _,rfl,by omega,by omega,by rw[Nat.pow_zero,Nat.div_one],Hr2,hb2⟩
 case round=>
  obtain⟨k,i,hk,rfl,hi1,hi2,rfl,hrow,hbel⟩:=hrel
  by_cases hlt:k<s
  ·obtain⟨j,rfl⟩:=Int.eq_ofNat_of_zero_le (show 0≤i by omega);have hj:j+k+1=l.length+s:=by omega
   have hcell:=hrow.out.cell j (by rw[I8 _ _ _ _ hk];omega);have hfr:=hrow.out.frozen j;have hset:=zh ((hrow.out.set j (v/256^k%256)));rw[QP l v s k j hlt hj] at hset;have hV:v/256^k<18446744073709551616:=Nat.lt_of_le_of_lt (Nat.div_le_self _ _) hv;have hnext:=zh (show v/256^(k+1)=v/256^k/256 by rw[Nat.pow_succ,Nat.div_div_eq_div_mul]);have Hj:=zh hj;clear hj hrow;generalize v/256^k=V at*;generalize (Su l v s k).getD j 0=X at*;go_wp2
   go_roundw
   case rel=>exact⟨k+1,(j:Int)-1,by omega,rfl,by omega,by omega,by rw[hnext.out];rfl,hset,hbel.setCell (zlr _) _⟩
   case measure=>simp[intOf]
  ·obtain rfl:k=s:=by omega
   have hlast:=hrow.out;have e:Su l v k k=l++beL v k:=by unfold Su;simp
   rw[e] at hlast;have Hlast:=zh hlast;clear hlast hrow e;generalize v/256^k=V at*;go_wp2;go_ret;exact⟨rfl,Hlast.out,hbel⟩
end Go.Proofs.YtdgladhfibfdlaaGreatDoor
