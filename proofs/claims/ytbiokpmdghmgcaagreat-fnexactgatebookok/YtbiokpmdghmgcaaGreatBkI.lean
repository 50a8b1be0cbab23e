import Derived.Deep.Cut
import Derived.Deep.DeepCutAuto
import Derived.Test.YtbiokpmdghmgcaaGreatPlainBk
namespace Go.Proofs.YtbiokpmdghmgcaaGreat
set_option maxHeartbeats 40000000
open Go.RowKit Go.Deep
theorem or1:∀ S:Fin 64,bits BinOp.or IntKind.u8 (S.val:Int) 2=((S.val|||2:Nat):Int):=by decide+kernel
theorem or2:∀ S:Fin 64,bits BinOp.or IntKind.u8 (S.val:Int) 4=((S.val|||4:Nat):Int):=by decide+kernel
theorem or3:∀ S:Fin 64,bits BinOp.or IntKind.u8 (S.val:Int) 8=((S.val|||8:Nat):Int):=by decide+kernel
theorem or4:∀ S:Fin 64,bits BinOp.or IntKind.u8 (S.val:Int) 16=((S.val|||16:Nat):Int):=by decide+kernel
theorem or5:∀ S:Fin 64,bits BinOp.or IntKind.u8 (S.val:Int) 32=((S.val|||32:Nat):Int):=by decide+kernel
theorem m6 {a b:Int} {c d:Bool} (h:a=b) (g:c=d):Ending.returned (.tuple #[.int .u8 a,.bool c])=.returned (.tuple #[.int .u8 b,.bool d]):=by rw[h,g]
theorem kV (l:List Int) (k:Nat):gl l k=true↔1≤l.getD k 0∧l.getD k 0≤5∧(k=0∨l.getD (k - 1) 0<l.getD k 0):=by
 simp only[gl,Bool.and_eq_true,Bool.or_eq_true,decide_eq_true_eq,and_assoc]
def jV (l:List Int) (k:Nat):Int:=if k=0 then 0 else l.getD (k - 1) 0
theorem nt {l:List Int} {k:Nat} (h:eA l k=true) (i:Nat) (hi:i<k):gl l i=true:=by
 unfold eA at h;rw[List.all_eq_true]at h;exact h i (List.mem_range.2 hi)
theorem om {l:List Int} {k:Nat} (h:eA l k=true):0≤jV l k∧(k≠0→1≤jV l k):=by
 unfold jV;by_cases h0:k=0
 ·simp[h0]
 ·rw[if_neg h0];have:=(kV l (k - 1)).1 (nt h (k - 1) (by omega));omega
theorem xi {l:List Int} {k:Nat} (h:eA l k=true):gl l k=true↔jV l k<l.getD k 0∧l.getD k 0≤5:=by
 rw[kV];have hp:=om h;unfold jV at hp ⊢;by_cases h0:k=0
 ·simp[h0];omega
 ·rw[if_neg h0]at hp ⊢;have:=hp.2 h0;constructor
  ·rintro⟨a,b,c⟩;omega
  ·rintro⟨a,b⟩;exact⟨by omega,b,Or.inr a⟩
theorem BZ (a b:Nat) (ha:a<64) (hb:b<64):a|||b<64:=Nat.or_lt_two_pow (n:=6) ha hb
theorem j7 {l:List Int}:∀ k,k≤l.length→eA l k=true→kL l k<64∧(k≠0→kL l k≠0)
 |0,_,_=>⟨by simp[kL],fun h=>absurd rfl h⟩
 |k+1,hk,h=>by
  have hb:eA l k=true:=by unfold eA at h ⊢;rw[Pl.g7]at h;simp only[Bool.and_eq_true]at h;exact h.1
  have ih:=j7 k (by omega) hb;have hv:=(kV l k).1 (nt h k (by omega));rw[nG l k (by omega)];have Be:l.getD k 0=1∨l.getD k 0=2∨l.getD k 0=3∨l.getD k 0=4∨l.getD k 0=5:=by omega
  have hz:bit (l.getD k 0)<64∧bit (l.getD k 0)≠0:=by
   rcases Be with e|e|e|e|e<;>rw[e]<;>decide
  refine⟨BZ _ _ ih.1 hz.1,fun _ e=> ?_⟩;exact hz.2 (Nat.or_eq_zero_iff.1 e).2
def pJ (l:List Int):Nat:=if eB l=true then setOf l else 0
theorem sD (b:Nat) (l:List Int) (w:World) (h:dI w b l):
  Calls Tryz.prog 146 #[.slice (some ⟨b,0,none⟩) l.length l.length] w fun e w'=>e=.returned (.tuple #[.int .u8 (pJ l:Nat),.bool (eB l)])∧w=w':=by
 have hl:=h.len;have hc:=h.at_;clear h;obtain⟨T,hT⟩:∃ T,T=pJ l:=⟨_,rfl⟩
 obtain⟨R,hR⟩:∃ R,R=eB l:=⟨_,rfl⟩
 have HR:=hid (And.intro hT hR);rw[← hT,← hR];clear hT hR;go_enter Tryz.func146,Tryz.ntmps146
 go_wp2;go_loop [4,5,10] (fun s a i=>∃ (k S:Nat) (z:Int),k≤l.length∧i=.int .i64 k∧s=.int .u8 (S:Nat)∧a=.int .i64 z∧S=kL l k∧z=jV l k∧eA l k=true) (fun _ _ i=>l.length - (intOf i).toNat)
 case atStart=>exact⟨0,0,0,nz,rfl,rfl,rfl,rfl,rfl,rfl⟩
 case round=>
  obtain⟨k,S,z,hk,rfl,rfl,rfl,hS,hz,hv⟩:=hrel;have HQ:=hid (And.intro hS (And.intro hz hv));have AR:S<64:=by rw[hS];exact(j7 k hk hv).1
  clear hS hz hv;by_cases aw:k<l.length
  ·obtain⟨v,x7⟩:∃ v,v=l.getD k 0:=⟨_,rfl⟩
   have c0:=hc k aw;rw[← x7]at c0;have gS:Hid (gl l k=true↔z<v∧v≤5):=by show _↔_;rw[xi HQ.out.2.2,← x7,← HQ.out.2.1]
   have HSU:Hid (kL l (k+1)=S|||bit v):=by show _=_;rw[nG l k aw,← x7,← HQ.out.1]
   have HLA:Hid (jV l (k+1)=v):=by show _=_;rw[jV,if_neg (by omega),x7];rfl
   have HZ:Hid (0≤z):=by show 0≤z;rw[HQ.out.2.1];exact(om HQ.out.2.2).1
   clear x7 hc;have bad:¬ (z<v∧v≤5)→Hid (T=0∧R=false):=by
    intro hn;have hf:gl l k=false:=by rw[Bool.eq_false_iff];exact fun e=>hn (gS.out.1 e)
    have:=pd aw hf;exact⟨by rw[HR.out.1,pJ,this];rfl,by rw[HR.out.2,this]⟩
   by_cases h1:z<v
   ·by_cases h5:v≤5
    ·have HN:=hid (jw HQ.out.2.2 (gS.out.2 ⟨h1,h5⟩));clear bad;have mV:=HZ.out;have Be:v=1∨v=2∨v=3∨v=4∨v=5:=by omega
     rcases Be with rfl|rfl|rfl|rfl|rfl
     all_goals
      clear mV;go_wp2;go_round
      case rel=>exact⟨k+1,_,_,by omega,by go_num,(by first|exact congrArg (Value.int IntKind.u8) (or1 ⟨S,AR⟩)|exact congrArg (Value.int IntKind.u8) (or2 ⟨S,AR⟩)|exact congrArg (Value.int IntKind.u8) (or3 ⟨S,AR⟩)|exact congrArg (Value.int IntKind.u8) (or4 ⟨S,AR⟩)|exact congrArg (Value.int IntKind.u8) (or5 ⟨S,AR⟩)),rfl,HSU.out.symm,HLA.out.symm,HN.out⟩
      case measure=>simp[intOf];omega
    ·have HE:=bad (by omega);clear bad;go_wp2;refine bodyPost_ret (v:=.tuple #[.int .u8 0,.bool false]) (by simp[results,Tryz.results146,go_sem]) rfl ⟨?_,rfl⟩;exact m6 (by rw[HE.out.1];rfl) HE.out.2.symm
   ·have HE:=bad (by omega);clear bad;go_wp2;refine bodyPost_ret (v:=.tuple #[.int .u8 0,.bool false]) (by simp[results,Tryz.results146,go_sem]) rfl ⟨?_,rfl⟩;exact m6 (by rw[HE.out.1];rfl) HE.out.2.symm
  ·obtain rfl:k=l.length:=by omega
   have HE:Hid (T=S∧R=decide (S≠0)):=by
    have q:=HQ.out;have s:=j7 l.length nr q.2.2;rw[← q.1]at s;by_cases h0:l.length=0
    ·have e:l=[]:=List.length_eq_zero_iff.1 h0;have:eB l=false:=by rw[e];rfl
     have JX:S=0:=by rw[q.1,h0];rfl
     exact⟨by rw[HR.out.1,pJ,this,JX];rfl,by rw[HR.out.2,this,JX];rfl⟩
    ·have:eB l=true:=by
      rw[eB,q.2.2];have:l.isEmpty=false:=by cases l with
       |nil=>exact absurd rfl h0
       |cons a t=>rfl
      rw[this];rfl
     have JX:=s.2 h0;exact⟨by rw[HR.out.1,pJ,this,q.1,xr l l.length nr];rfl,by rw[HR.out.2,this];simp[JX]⟩
   clear hc;by_cases h0:S=0
   ·subst h0;go_wp2;refine bodyPost_ret (v:=.tuple #[.int .u8 0,.bool false]) (by simp[results,Tryz.results146,go_sem]) rfl ⟨?_,rfl⟩;exact m6 (by rw[HE.out.1];rfl) (by rw[HE.out.2];rfl)
   ·have hb:((S:Int) !=0)=true:=by simp;omega
    go_wp2;refine bodyPost_ret (v:=.tuple #[.int .u8 (S:Nat),.bool true]) (by simp[results,Tryz.results146,go_sem]) rfl ⟨?_,rfl⟩;exact m6 (by rw[HE.out.1]) (by rw[HE.out.2];simp[h0])
theorem kv (n lo hi:Int) (w:World):
  Calls Tryz.prog 25 #[.int .i64 n,.int .i64 lo,.int .i64 hi] w fun e w'=>e=.returned (.bool (decide (lo≤n)&&decide (n≤hi)))∧w'=w:=(bb n lo hi w).mono fun _ _ h=>⟨h.1,h.2.symm⟩
theorem sf (b:Nat) (r:Rul) (w:World) (h:dI w b r.verbs) (hs:r.sized):
  Calls Tryz.prog 69 #[.agg #[.slice (some ⟨b,0,none⟩) r.verbs.length r.verbs.length,.string r.kind,.string r.team,.string r.pre]] w fun e w'=>e=.returned (.bool (eo r))∧Bel w w':=by
 have hl:=h.len;have HI:=hid h;have HZ:=hid (And.intro hs.1 hs.2.1);have JJ:r.pre.size≤maxLen:=hs.2.2;unfold maxLen at JJ;have HB:Hid (Bel w (w.alloc (.cells #[.slice (some ⟨b,0,none⟩) r.verbs.length r.verbs.length,.string r.kind,.string r.team,.string r.pre] 124))):=ab br _;clear h hs;by_cases h0:r.verbs.length=0
 ·have HE:Hid (eo r=false):=by
   show eo r=false;have:r.verbs=[]:=List.length_eq_zero_iff.1 h0;rw[eo,this];rfl
  have yj:((r.verbs.length:Int)==0)=true:=by rw[h0];rfl
  clear h0;go_enter Tryz.func69,Tryz.ntmps69
  go_wp2;go_ret;exact⟨Pl.ae HE.out.symm,HB.out⟩
 have yj:((r.verbs.length:Int)==0)=false:=beq_eq_false_iff_ne.2 (by omega);have HN0:Hid (r.verbs.isEmpty=false):=by
  show r.verbs.isEmpty=false;cases hv:r.verbs with
  |nil=>rw[hv]at h0;exact absurd rfl h0
  |cons a t=>rfl
 clear h0;by_cases lr:r.pre.size≤16
 case neg=>
  have HE:Hid (eo r=false):=by show eo r=false;simp[eo,lr]
  go_enter Tryz.func69,Tryz.ntmps69
  go_wp2;go_ret;exact⟨Pl.ae HE.out.symm,HB.out⟩
 have combo:(r.kind.toList.isEmpty=true∨(r.kind.toList.isEmpty=false∧Pl.aq r.kind=true))∨(r.kind.toList.isEmpty=false∧Pl.aq r.kind=false):=by
  cases r.kind.toList.isEmpty<;>cases Pl.aq r.kind<;>simp
 have AM:(r.team.toList.isEmpty=true∨(r.team.toList.isEmpty=false∧Pl.aq r.team=true))∨(r.team.toList.isEmpty=false∧Pl.aq r.team=false):=by
  cases r.team.toList.isEmpty<;>cases Pl.aq r.team<;>simp
 rcases combo with hk|⟨hk,pq⟩
 case inr=>
  have HE:Hid (eo r=false):=by show eo r=false;simp[eo,hk,pq]
  clear AM;go_enter Tryz.func69,Tryz.ntmps69
  go_wp2_with (go_at_call 68;refine(aH _ _ HZ.out.1).mono ?_;rintro e w' ⟨rfl,rfl⟩)
  go_ret;exact⟨Pl.ae HE.out.symm,HB.out⟩
 have oU:Hid ((r.kind.toList.isEmpty||Pl.aq r.kind)=true):=by
  show _=true;rcases hk with hk|⟨hk,pq⟩
  ·simp[hk]
  ·simp[hk,pq]
 rcases AM with ht|⟨ht,AL⟩
 case inr=>
  have HE:Hid (eo r=false):=by show eo r=false;simp[eo,ht,AL]
  rcases hk with hk|⟨hk,pq⟩
  all_goals
   go_enter Tryz.func69,Tryz.ntmps69
   go_wp2_with (go_at_call 68;refine(aH _ _ (by first|exact HZ.out.1|exact HZ.out.2)).mono ?_;rintro e w' ⟨rfl,rfl⟩)
   go_ret;exact⟨Pl.ae HE.out.symm,HB.out⟩
 have HTT:Hid ((r.team.toList.isEmpty||Pl.aq r.team)=true):=by
  show _=true;rcases ht with ht|⟨ht,AL⟩
  ·simp[ht]
  ·simp[ht,AL]
 obtain⟨R,hR⟩:∃ R,R=eo r:=⟨_,rfl⟩
 have HR:Hid (R=(eA r.verbs r.verbs.length&&Pl.nameBytes r.pre)):=by
  show R=_;rw[hR,eo,oU.out,HTT.out,eB,HN0.out];simp[lr]
 have Dr:Hid (∀ k,k<r.verbs.length→gl r.verbs k=false→R=false):=by
  intro k hk hf;rw[HR.out,eA,Pl.gd _ _ k hk hf];rfl
 rw[← hR];clear hR oU HTT;rcases hk with hk|⟨hk,pq⟩<;>rcases ht with ht|⟨ht,AL⟩
 all_goals
  go_enter Tryz.func69,Tryz.ntmps69
  go_wp2_with (go_at_call 68;refine(aH _ _ (by first|exact HZ.out.1|exact HZ.out.2)).mono ?_;rintro e w' ⟨rfl,rfl⟩)
  clear hk ht;try clear pq
  try clear AL
  clear yj;go_loopw [3] (fun i wr=>∃ k:Nat,k≤r.verbs.length∧i=.int .i64 k∧eA r.verbs k=true∧Below (w.alloc (.cells #[.slice (some ⟨b,0,none⟩) r.verbs.length r.verbs.length,.string r.kind,.string r.team,.string r.pre] 124)).heap.size (w.alloc (.cells #[.slice (some ⟨b,0,none⟩) r.verbs.length r.verbs.length,.string r.kind,.string r.team,.string r.pre] 124)) wr) (fun i _=>r.verbs.length - (intOf i).toNat)
  case atStart=>exact⟨0,nz,rfl,rfl,br⟩
  case round=>
   obtain⟨k,hk,rfl,hq,hW⟩:=hrel;have HQ:=hid hq;have HW:=hid (aa HB.out hW);have k0:wr.cell? ⟨w.heap.size,0,none⟩=some (.slice (some ⟨b,0,none⟩) r.verbs.length r.verbs.length):=(hW.cell (p:=⟨w.heap.size,0,none⟩) (by simp)).trans (by simp);have k3:wr.cell? ⟨w.heap.size,3,none⟩=some (.string r.pre):=(hW.cell (p:=⟨w.heap.size,3,none⟩) (by simp)).trans (by simp);have qX:=hid hW;clear hq hW;by_cases aw:k<r.verbs.length
   ·obtain⟨y,hy⟩:∃ y,y=r.verbs.getD k 0:=⟨_,rfl⟩
    have c0:=(HI.out.later HW.out).at_ k aw;rw[← hy]at c0;have Gt:Hid (gl r.verbs k=(decide (1≤y)&&decide (y≤5)&&(decide (k=0)||decide (r.verbs.getD (k - 1) 0<y)))):=by show _=_;rw[gl,← hy]
    clear hy;cases bC:(decide (1≤y)&&decide (y≤5))
    ·have HE:=hid (Dr.out k aw (by rw[Gt.out,bC];rfl));go_wp2_with fail
     go_quiet ((go_at_call 25;exact Calls.quiet_of_same (kv _ _ _ _)))
     go_wp2;go_ret;exact⟨Pl.ae HE.out.symm,al HW.out _⟩
    ·by_cases h0:k=0
     ·subst h0;have HE:=hid (jw HQ.out (by rw[Gt.out,bC];rfl));go_wp2_with fail
      go_quiet ((go_at_call 25;exact Calls.quiet_of_same (kv _ _ _ _)))
      go_wp2;go_roundw
      case rel=>exact⟨0+1,by omega,by go_num,HE.out,al qX.out _⟩
      case measure=>simp[intOf];omega
     ·obtain⟨m,rfl⟩:∃ m,k=m+1:=⟨k - 1,by omega⟩
      obtain⟨p,hp⟩:∃ p,p=r.verbs.getD m 0:=⟨_,rfl⟩
      have c1:=(HI.out.later HW.out).at_ m (by omega);rw[← hp]at c1;have mZ:Hid (gl r.verbs (m+1)=decide (p<y)):=by show _=_;rw[Gt.out,bC,hp];simp
      have DM:decide ((m:Int)+1<(r.verbs.length:Int))=true:=by simp;omega
      clear hp h0;by_cases hpy:p<y
      ·have HE:=hid (jw HQ.out (by rw[mZ.out];simp[hpy]));go_wp2_with fail
       go_quiet ((go_at_call 25;exact Calls.quiet_of_same (kv _ _ _ _)))
       go_wp2;go_roundw
       case rel=>exact⟨m+1+1,by omega,by go_num,HE.out,al qX.out _⟩
       case measure=>simp[intOf];omega
      ·have HE:=hid (Dr.out (m+1) aw (by rw[mZ.out];simp[hpy]));go_wp2_with fail
       go_quiet ((go_at_call 25;exact Calls.quiet_of_same (kv _ _ _ _)))
       go_wp2;go_ret;exact⟨Pl.ae HE.out.symm,al HW.out _⟩
   ·have fA:Hid (R=Pl.nameBytes r.pre):=by
     show R=_;obtain rfl:k=r.verbs.length:=by omega
     rw[HR.out,HQ.out];rfl
    go_wp2;go_loop [4] (fun i=>∃ j:Nat,j≤r.pre.size∧i=.int .i64 j∧(r.pre.data.toList.take j).all Pl.cI=true) (fun i=>r.pre.size - (intOf i).toNat)
    case atStart=>exact⟨0,nz,rfl,rfl⟩
    case round=>
     obtain⟨j,hj,rfl,av⟩:=hrel;have HA:=hid av;clear av;by_cases pa:j<r.pre.size
     ·by_cases hn:Pl.cI r.pre[j]=true
      ·have HS:Hid ((r.pre.data.toList.take (j+1)).all Pl.cI=true):=by show _=true;rw[Pl.gH _ _ _ pa,HA.out,hn];rfl
       go_wp2_with (go_at_call 125;refine(jJ _ _).mono ?_;rintro e w' ⟨rfl,rfl⟩)
       go_round
       case rel=>first|exact⟨j+1,by omega,by go_num,HS.out⟩|(refine⟨trivial, ?_⟩;(repeat apply Exists.intro);exact⟨⟨j+1,by omega,by go_num,HS.out⟩,rfl⟩)
       case measure=>simp[intOf];omega
      ·have yh:Pl.cI r.pre[j]=false:=by simpa using hn
       have HE:Hid (R=false):=by show R=false;rw[fA.out,Pl.nameBytes];exact Pl.all_false _ _ j pa yh
       go_wp2_with (go_at_call 125;refine(jJ _ _).mono ?_;rintro e w' ⟨rfl,rfl⟩)
       go_ret;exact⟨Pl.ae HE.out.symm,HW.out⟩
     ·have HE:Hid (R=true):=by
       show R=true;have:=Pl.jj Pl.cI r.pre j (by omega);rw[fA.out,Pl.nameBytes,← this,HA.out]
      go_wp2;go_ret;exact⟨Pl.ae HE.out.symm,HW.out⟩
theorem tp (b:Nat) (r:Rul) (w:World) (h:dI w b r.verbs) (hs:r.sized):
  Calls Tryz.prog 90 #[.agg #[.slice (some ⟨b,0,none⟩) r.verbs.length r.verbs.length,.string r.kind,.string r.team,.string r.pre]] w fun e w'=>e=.returned (.bool (eo r))∧Bel w w':=by
 have HZ:Hid (r.kind.size≤maxLen∧r.team.size≤maxLen∧r.pre.size≤maxLen):=hs;have HB:Hid (Bel w (w.alloc (.cells #[.slice (some ⟨b,0,none⟩) r.verbs.length r.verbs.length,.string r.kind,.string r.team,.string r.pre] 124))):=ab br _;have HX:Hid (Calls Tryz.prog 146 #[.slice (some ⟨b,0,none⟩) r.verbs.length r.verbs.length] (w.alloc (.cells #[.slice (some ⟨b,0,none⟩) r.verbs.length r.verbs.length,.string r.kind,.string r.team,.string r.pre] 124)) fun e w'=>e=.returned (.tuple #[.int .u8 (pJ r.verbs:Nat),.bool (eB r.verbs)])∧(w.alloc (.cells #[.slice (some ⟨b,0,none⟩) r.verbs.length r.verbs.length,.string r.kind,.string r.team,.string r.pre] 124))=w'):=
  sD b r.verbs _ (h.later HB.out)
 have JJ:r.pre.size≤maxLen:=hs.2.2;unfold maxLen at JJ;obtain⟨R,hR⟩:∃ R,R=eo r:=⟨_,rfl⟩
 have HR:Hid (R=(eB r.verbs&&(r.kind.toList.isEmpty||Pl.aq r.kind)&&(r.team.toList.isEmpty||Pl.aq r.team)&&(decide (r.pre.size≤16)&&Pl.nameBytes r.pre))):=hR;rw[← hR];clear h hs hR;have d16:(decide ((r.pre.size:Int)≤16)=true∧decide (r.pre.size≤16)=true)∨(decide ((r.pre.size:Int)≤16)=false∧decide (r.pre.size≤16)=false):=by
  by_cases h:r.pre.size≤16
  ·exact Or.inl ⟨by simp;omega,by simp[h]⟩
  ·exact Or.inr ⟨by simp;omega,by simp[h]⟩
 obtain⟨G,hG⟩:∃ G,G=decide (r.pre.size≤16):=⟨_,rfl⟩
 rw[← hG]at HR d16;clear hG JJ;go_enter Tryz.func90,Tryz.ntmps90
 go_wp2_with fail
 refine HX.out.mono ?_;rintro e w2 ⟨rfl,rfl⟩;clear HX;cases hk:r.kind.toList.isEmpty
 ·cases ht:r.team.toList.isEmpty
  ·cases hv:eB r.verbs
   ·have HE:Hid (R=false):=by show R=false;rw[HR.out];simp[hv]
    clear HR;go_wp2_with (first|(go_at_call 89;refine(aK _ _ (by first|exact HZ.out.1|exact HZ.out.2.1)).mono ?_;rintro e w' ⟨rfl,rfl⟩)|(go_at_call 145;refine(aV _ _ HZ.out.2.2).mono ?_;rintro e w' ⟨rfl,rfl⟩))
    go_ret;exact⟨Pl.ae HE.out.symm,HB.out⟩
   ·cases pq:Pl.aq r.kind
    ·have HE:Hid (R=false):=by show R=false;rw[HR.out];simp[hk,pq]
     clear HR;go_wp2_with (first|(go_at_call 89;refine(aK _ _ (by first|exact HZ.out.1|exact HZ.out.2.1)).mono ?_;rintro e w' ⟨rfl,rfl⟩)|(go_at_call 145;refine(aV _ _ HZ.out.2.2).mono ?_;rintro e w' ⟨rfl,rfl⟩))
     go_ret;exact⟨Pl.ae HE.out.symm,HB.out⟩
    ·cases AL:Pl.aq r.team
     ·have HE:Hid (R=false):=by show R=false;rw[HR.out];simp[ht,AL]
      clear HR;go_wp2_with (first|(go_at_call 89;refine(aK _ _ (by first|exact HZ.out.1|exact HZ.out.2.1)).mono ?_;rintro e w' ⟨rfl,rfl⟩)|(go_at_call 145;refine(aV _ _ HZ.out.2.2).mono ?_;rintro e w' ⟨rfl,rfl⟩))
      go_ret;exact⟨Pl.ae HE.out.symm,HB.out⟩
     ·rcases d16 with⟨lr,rfl⟩|⟨lr,rfl⟩
      ·have HE:Hid (R=Pl.nameBytes r.pre):=by show R=Pl.nameBytes r.pre;rw[HR.out];simp[hv,pq,AL]
       clear HR;go_wp2_with (first|(go_at_call 89;refine(aK _ _ (by first|exact HZ.out.1|exact HZ.out.2.1)).mono ?_;rintro e w' ⟨rfl,rfl⟩)|(go_at_call 145;refine(aV _ _ HZ.out.2.2).mono ?_;rintro e w' ⟨rfl,rfl⟩))
       go_ret;exact⟨Pl.ae HE.out.symm,HB.out⟩
      ·have HE:Hid (R=false):=by show R=false;rw[HR.out];simp[Bool.and_false]
       clear HR;go_wp2_with (first|(go_at_call 89;refine(aK _ _ (by first|exact HZ.out.1|exact HZ.out.2.1)).mono ?_;rintro e w' ⟨rfl,rfl⟩)|(go_at_call 145;refine(aV _ _ HZ.out.2.2).mono ?_;rintro e w' ⟨rfl,rfl⟩))
       go_ret;exact⟨Pl.ae HE.out.symm,HB.out⟩
  ·cases hv:eB r.verbs
   ·have HE:Hid (R=false):=by show R=false;rw[HR.out];simp[hv]
    clear HR;go_wp2_with (first|(go_at_call 89;refine(aK _ _ (by first|exact HZ.out.1|exact HZ.out.2.1)).mono ?_;rintro e w' ⟨rfl,rfl⟩)|(go_at_call 145;refine(aV _ _ HZ.out.2.2).mono ?_;rintro e w' ⟨rfl,rfl⟩))
    go_ret;exact⟨Pl.ae HE.out.symm,HB.out⟩
   ·cases pq:Pl.aq r.kind
    ·have HE:Hid (R=false):=by show R=false;rw[HR.out];simp[hk,pq]
     clear HR;go_wp2_with (first|(go_at_call 89;refine(aK _ _ (by first|exact HZ.out.1|exact HZ.out.2.1)).mono ?_;rintro e w' ⟨rfl,rfl⟩)|(go_at_call 145;refine(aV _ _ HZ.out.2.2).mono ?_;rintro e w' ⟨rfl,rfl⟩))
     go_ret;exact⟨Pl.ae HE.out.symm,HB.out⟩
    ·rcases d16 with⟨lr,rfl⟩|⟨lr,rfl⟩
     ·have HE:Hid (R=Pl.nameBytes r.pre):=by show R=Pl.nameBytes r.pre;rw[HR.out];simp[hv,ht,pq]
      clear HR;go_wp2_with (first|(go_at_call 89;refine(aK _ _ (by first|exact HZ.out.1|exact HZ.out.2.1)).mono ?_;rintro e w' ⟨rfl,rfl⟩)|(go_at_call 145;refine(aV _ _ HZ.out.2.2).mono ?_;rintro e w' ⟨rfl,rfl⟩))
      go_ret;exact⟨Pl.ae HE.out.symm,HB.out⟩
     ·have HE:Hid (R=false):=by show R=false;rw[HR.out];simp[Bool.and_false]
      clear HR;go_wp2_with (first|(go_at_call 89;refine(aK _ _ (by first|exact HZ.out.1|exact HZ.out.2.1)).mono ?_;rintro e w' ⟨rfl,rfl⟩)|(go_at_call 145;refine(aV _ _ HZ.out.2.2).mono ?_;rintro e w' ⟨rfl,rfl⟩))
      go_ret;exact⟨Pl.ae HE.out.symm,HB.out⟩
 ·cases ht:r.team.toList.isEmpty
  ·cases hv:eB r.verbs
   ·have HE:Hid (R=false):=by show R=false;rw[HR.out];simp[hv]
    clear HR;go_wp2_with (first|(go_at_call 89;refine(aK _ _ (by first|exact HZ.out.1|exact HZ.out.2.1)).mono ?_;rintro e w' ⟨rfl,rfl⟩)|(go_at_call 145;refine(aV _ _ HZ.out.2.2).mono ?_;rintro e w' ⟨rfl,rfl⟩))
    go_ret;exact⟨Pl.ae HE.out.symm,HB.out⟩
   ·cases AL:Pl.aq r.team
    ·have HE:Hid (R=false):=by show R=false;rw[HR.out];simp[ht,AL]
     clear HR;go_wp2_with (first|(go_at_call 89;refine(aK _ _ (by first|exact HZ.out.1|exact HZ.out.2.1)).mono ?_;rintro e w' ⟨rfl,rfl⟩)|(go_at_call 145;refine(aV _ _ HZ.out.2.2).mono ?_;rintro e w' ⟨rfl,rfl⟩))
     go_ret;exact⟨Pl.ae HE.out.symm,HB.out⟩
    ·rcases d16 with⟨lr,rfl⟩|⟨lr,rfl⟩
     ·have HE:Hid (R=Pl.nameBytes r.pre):=by show R=Pl.nameBytes r.pre;rw[HR.out];simp[hv,hk,AL]
      clear HR;go_wp2_with (first|(go_at_call 89;refine(aK _ _ (by first|exact HZ.out.1|exact HZ.out.2.1)).mono ?_;rintro e w' ⟨rfl,rfl⟩)|(go_at_call 145;refine(aV _ _ HZ.out.2.2).mono ?_;rintro e w' ⟨rfl,rfl⟩))
      go_ret;exact⟨Pl.ae HE.out.symm,HB.out⟩
     ·have HE:Hid (R=false):=by show R=false;rw[HR.out];simp[Bool.and_false]
      clear HR;go_wp2_with (first|(go_at_call 89;refine(aK _ _ (by first|exact HZ.out.1|exact HZ.out.2.1)).mono ?_;rintro e w' ⟨rfl,rfl⟩)|(go_at_call 145;refine(aV _ _ HZ.out.2.2).mono ?_;rintro e w' ⟨rfl,rfl⟩))
      go_ret;exact⟨Pl.ae HE.out.symm,HB.out⟩
  ·cases hv:eB r.verbs
   ·have HE:Hid (R=false):=by show R=false;rw[HR.out];simp[hv]
    clear HR;go_wp2_with (first|(go_at_call 89;refine(aK _ _ (by first|exact HZ.out.1|exact HZ.out.2.1)).mono ?_;rintro e w' ⟨rfl,rfl⟩)|(go_at_call 145;refine(aV _ _ HZ.out.2.2).mono ?_;rintro e w' ⟨rfl,rfl⟩))
    go_ret;exact⟨Pl.ae HE.out.symm,HB.out⟩
   ·rcases d16 with⟨lr,rfl⟩|⟨lr,rfl⟩
    ·have HE:Hid (R=Pl.nameBytes r.pre):=by show R=Pl.nameBytes r.pre;rw[HR.out];simp[hv,hk,ht]
     clear HR;go_wp2_with (first|(go_at_call 89;refine(aK _ _ (by first|exact HZ.out.1|exact HZ.out.2.1)).mono ?_;rintro e w' ⟨rfl,rfl⟩)|(go_at_call 145;refine(aV _ _ HZ.out.2.2).mono ?_;rintro e w' ⟨rfl,rfl⟩))
     go_ret;exact⟨Pl.ae HE.out.symm,HB.out⟩
    ·have HE:Hid (R=false):=by show R=false;rw[HR.out];simp[Bool.and_false]
     clear HR;go_wp2_with (first|(go_at_call 89;refine(aK _ _ (by first|exact HZ.out.1|exact HZ.out.2.1)).mono ?_;rintro e w' ⟨rfl,rfl⟩)|(go_at_call 145;refine(aV _ _ HZ.out.2.2).mono ?_;rintro e w' ⟨rfl,rfl⟩))
     go_ret;exact⟨Pl.ae HE.out.symm,HB.out⟩
end Go.Proofs.YtbiokpmdghmgcaaGreat
namespace Go.Proofs.YtbiokpmdghmgcaaGreat
set_option maxRecDepth 8000
set_option maxHeartbeats 40000000
open Go.RowKit Go.Deep
theorem tR (L:Lw) (K:Bk) (a0 a1 a2 e0 e1 e2 e3:Nat) (w:World) (hL:iy w a0 a1 a2 L) (hK:gp w e0 e1 e2 e3 K):
  Calls Tryz.prog 40 #[.agg #[.slice (some ⟨a0,0,none⟩) L.shapes.length L.shapes.length,.slice (some ⟨a1,0,none⟩) L.mends.length L.mends.length,.slice (some ⟨a2,0,none⟩) L.teams.length L.teams.length],.agg #[.int .i64 K.now,.int .i64 K.tick,.int .i64 K.given,.slice (some ⟨e0,0,none⟩) K.objects.length K.objects.length,.slice (some ⟨e1,0,none⟩) K.grants.length K.grants.length,.slice (some ⟨e2,0,none⟩) K.ledgers.length K.ledgers.length,.slice (some ⟨e3,0,none⟩) K.purses.length K.purses.length]] w fun e w'=>e=.returned (.bool (dM L K))∧Bel w w':=by
 have HA:=hid (And.intro hL hK);have hl:=hK.l.len;obtain⟨R,hR⟩:∃ R,R=dM L K:=⟨_,rfl⟩
 have HR:Hid (R=(decide (K.ledgers.length≤10)&&gj K.ledgers&&aD (cz L K) K.ledgers.length)):=hR;rw[← hR];clear hK hL hR;obtain⟨w1,dW⟩:∃ w1,w1=(w.alloc (.cells #[.slice (some ⟨a0,0,none⟩) L.shapes.length L.shapes.length,.slice (some ⟨a1,0,none⟩) L.mends.length L.mends.length,.slice (some ⟨a2,0,none⟩) L.teams.length L.teams.length] 40)).alloc (.cells #[.int .i64 K.now,.int .i64 K.tick,.int .i64 K.given,.slice (some ⟨e0,0,none⟩) K.objects.length K.objects.length,.slice (some ⟨e1,0,none⟩) K.grants.length K.grants.length,.slice (some ⟨e2,0,none⟩) K.ledgers.length K.ledgers.length,.slice (some ⟨e3,0,none⟩) K.purses.length K.purses.length] 47):=⟨_,rfl⟩
 have cN:Hid (Bel w w1):=by show Below _ _ _;rw[dW];exact ab (ab br _) _
 have dD:Hid (∀ W,Bel w1 W→bm W (w.heap.size+1) (.int .i64 K.now) (.int .i64 K.tick) (.int .i64 K.given) (.slice (some ⟨e0,0,none⟩) K.objects.length K.objects.length) (.slice (some ⟨e1,0,none⟩) K.grants.length K.grants.length) (.slice (some ⟨e2,0,none⟩) K.ledgers.length K.ledgers.length) (.slice (some ⟨e3,0,none⟩) K.purses.length K.purses.length)∧ch W w.heap.size (.slice (some ⟨a0,0,none⟩) L.shapes.length L.shapes.length) (.slice (some ⟨a1,0,none⟩) L.mends.length L.mends.length) (.slice (some ⟨a2,0,none⟩) L.teams.length L.teams.length)):=by
  have q:bm w1 (w.heap.size+1) (.int .i64 K.now) (.int .i64 K.tick) (.int .i64 K.given) (.slice (some ⟨e0,0,none⟩) K.objects.length K.objects.length) (.slice (some ⟨e1,0,none⟩) K.grants.length K.grants.length) (.slice (some ⟨e2,0,none⟩) K.ledgers.length K.ledgers.length) (.slice (some ⟨e3,0,none⟩) K.purses.length K.purses.length)∧ch w1 w.heap.size (.slice (some ⟨a0,0,none⟩) L.shapes.length L.shapes.length) (.slice (some ⟨a1,0,none⟩) L.mends.length L.mends.length) (.slice (some ⟨a2,0,none⟩) L.teams.length L.teams.length):=by rw[dW];exact⟨bm.bV _ _ _ _ _ _ _ _ _ _ (by simp),(ch.bV w _ _ _ _ _ rfl).ek _⟩
  intro W hW;exact⟨q.1.later hW,q.2.later hW⟩
 go_enter Tryz.func40,Tryz.ntmps40
 go_upto_region 1 with fail
 rw[← dW];clear dW;obtain⟨aR,_⟩:=dD.out w1 br;obtain⟨yz,y0,y1,y2,y3,y4,y5,y6⟩:=aR;by_cases hlen:K.ledgers.length≤10
 ·obtain⟨ra,uO⟩:∃ ra,ra=gj K.ledgers:=⟨_,rfl⟩
  have HC:Hid (Calls Tryz.prog 91 #[.slice (some ⟨e2,0,none⟩) K.ledgers.length K.ledgers.length,.func (.func 92) #[] #[]] w1 fun e w'=>e=.returned (.bool ra)∧Bel w1 w'):=by
   show Calls _ _ _ _ _;rw[uO];exact D7 _ _ _ (HA.out.2.later cN.out).l
  have yg:Hid (ra=gj K.ledgers):=uO;clear uO;go_wp2_with fail
  refine HC.out.mono ?_;rintro e w2 ⟨rfl,aA⟩;clear yz y0 y1 y2 y3 y4 y5 y6 HC;cases ra
  ·have HE:Hid (R=false):=by show R=false;rw[HR.out,← yg.out];simp
   go_wp2;go_ret;exact⟨Pl.ae HE.out.symm,aa cN.out aA⟩
  ·have l3:Hid (R=aD (cz L K) K.ledgers.length):=by show R=_;rw[HR.out,← yg.out];simp[hlen]
   have HL:Hid (K.ledgers.length≤10):=hlen;clear hlen;obtain⟨aR,_⟩:=dD.out w2 aA;obtain⟨yz,y0,y1,y2,y3,y4,y5,y6⟩:=aR;go_wp2;clear yz y0 y1 y2 y3 y4 y5 y6;go_loopw [20] (fun i wr=>∃ q:Nat,q≤K.ledgers.length∧i=.int .i64 q∧aD (cz L K) q=true∧Bel w1 wr) (fun i _=>K.ledgers.length - (intOf i).toNat)
   case atStart=>exact⟨0,nz,rfl,rfl,aA⟩
   case round=>
    obtain⟨q,hq,rfl,ha,hW⟩:=hrel;have HQ:Hid (aD (cz L K) q=true):=ha;have fu:=hid (aa cN.out hW);clear ha;by_cases aw:q<K.ledgers.length
    ·obtain⟨x,hx⟩:∃ x,x=K.ledgers.getD q Lg.none:=⟨_,rfl⟩
     have bC:=(HA.out.2.later fu.out).l;have gx:=bC.lt;have eb:=bC.at_ q aw;rw[← hx]at eb;obtain⟨c0,c1,c2,c3,eQ⟩:=eb;obtain⟨w4,ej⟩:∃ w4,w4=wr.alloc (.cells #[.string x.team,.string x.res,.int .i64 x.most,.int .i64 x.free] 131):=⟨_,rfl⟩
     obtain⟨E,hE⟩:∃ E,E=wr.heap.size:=⟨_,rfl⟩
     have dC:Bel wr w4:=by rw[ej];exact ab br _
     have je:=hid (aa hW dC);have aY:=hid (aa fu.out dC);have iG:Hid (∀ W,Bel w4 W→bm W (w.heap.size+1) (.int .i64 K.now) (.int .i64 K.tick) (.int .i64 K.given) (.slice (some ⟨e0,0,none⟩) K.objects.length K.objects.length) (.slice (some ⟨e1,0,none⟩) K.grants.length K.grants.length) (.slice (some ⟨e2,0,none⟩) K.ledgers.length K.ledgers.length) (.slice (some ⟨e3,0,none⟩) K.purses.length K.purses.length)∧ch W w.heap.size (.slice (some ⟨a0,0,none⟩) L.shapes.length L.shapes.length) (.slice (some ⟨a1,0,none⟩) L.mends.length L.mends.length) (.slice (some ⟨a2,0,none⟩) L.teams.length L.teams.length)∧aT W E #[.string x.team,.string x.res,.int .i64 x.most,.int .i64 x.free]):=by
      intro W bG;have q:=dD.out W (aa je.out bG);refine⟨q.1,q.2,aT.later ?_ bG⟩;rw[ej];exact aT.bV _ _ _ _ hE
     obtain⟨b1,bj⟩:∃ b1,b1=(bA L.teams x.team):=⟨_,rfl⟩
     have eu:Hid (∀ W,Bel w4 W→Calls Tryz.prog 93 #[.slice (some ⟨a2,0,none⟩) L.teams.length L.teams.length,.string x.team] W fun e w'=>e=.returned (.bool b1)∧Bel W w'):=fun W bG=>by
      rw[bj];have ft:=aa aY.out bG;exact jA a2 L.teams x.team W (HA.out.1.later ft).t
     obtain⟨b2,aA⟩:∃ b2,b2=(Pl.aq x.res):=⟨_,rfl⟩
     have fV:Hid (∀ W,Bel w4 W→Calls Tryz.prog 89 #[.string x.res] W fun e w'=>e=.returned (.bool b2)∧W=w'):=fun W bG=>by
      rw[aA];have ft:=aa aY.out bG;exact aK x.res W eQ.2
     obtain⟨b3,aQ⟩:∃ b3,b3=(within x.most 0 1000000):=⟨_,rfl⟩
     have fc:Hid (∀ W,Bel w4 W→Calls Tryz.prog 83 #[.int .i64 x.most,.int .i64 0,.int .i64 1000000] W fun e w'=>e=.returned (.bool b3)∧W=w'):=fun W bG=>by
      rw[aQ];have ft:=aa aY.out bG;exact gZ _ _ _ W
     obtain⟨b4,cq⟩:∃ b4,b4=(within x.free 0 x.most):=⟨_,rfl⟩
     have eX:Hid (∀ W,Bel w4 W→Calls Tryz.prog 83 #[.int .i64 x.free,.int .i64 0,.int .i64 x.most] W fun e w'=>e=.returned (.bool b4)∧W=w'):=fun W bG=>by
      rw[cq];have ft:=aa aY.out bG;exact gZ _ _ _ W
     have HP:Hid (cz L K q=(b1&&b2&&b3&&b4)):=by show cz L K q=_;unfold cz lJ;rw[← hx,bj,aA,aQ,cq]
     clear bj aA aQ cq eQ;have HF:Hid ((b1&&b2&&b3&&b4)=false→R=false):=fun hh=>by rw[l3.out];exact ba aw (HP.out.trans hh)
     have HT:Hid ((b1&&b2&&b3&&b4)=true→aD (cz L K) (q+1)=true):=fun hh=>aU HQ.out (HP.out.trans hh);have HK:Hid (Bel w4 w4):=br;clear hx bC;obtain⟨aR,_⟩:=dD.out wr hW;obtain⟨yz,y0,y1,y2,y3,y4,y5,y6⟩:=aR;go_upto_region 6 with fail
     rw[← ej,← hE];clear ej hE dC c0 c1 c2 c3 gx yz y0 y1 y2 y3 y4 y5 y6 hW;obtain⟨aR,bB,ao⟩:=iG.out w4 HK.out;obtain⟨yz,y0,y1,y2,y3,y4,y5,y6⟩:=aR;obtain⟨lz,l0,l1,l2⟩:=bB;have ez:=ao.lt;have x0:w4.cell? ⟨E,0,none⟩=some (.string x.team):=ao.at_ 0;have x1:w4.cell? ⟨E,1,none⟩=some (.string x.res):=ao.at_ 1;have x2:w4.cell? ⟨E,2,none⟩=some (.int .i64 x.most):=ao.at_ 2;have x3:w4.cell? ⟨E,3,none⟩=some (.int .i64 x.free):=ao.at_ 3;clear ao;go_wp2_with fail
     refine(eu.out w4 HK.out).mono ?_;rintro e cR ⟨rfl,mw⟩;have iB:=aa HK.out mw;clear HK;have HK:Hid (Bel w4 cR):=iB;clear iB mw;clear yz y0 y1 y2 y3 y4 y5 y6 lz l0 l1 l2 ez x0 x1 x2 x3;cases b1
     ·obtain⟨aR,bB,ao⟩:=iG.out cR HK.out;obtain⟨yz,y0,y1,y2,y3,y4,y5,y6⟩:=aR;obtain⟨lz,l0,l1,l2⟩:=bB;have ez:=ao.lt;have x0:cR.cell? ⟨E,0,none⟩=some (.string x.team):=ao.at_ 0;have x1:cR.cell? ⟨E,1,none⟩=some (.string x.res):=ao.at_ 1;have x2:cR.cell? ⟨E,2,none⟩=some (.int .i64 x.most):=ao.at_ 2;have x3:cR.cell? ⟨E,3,none⟩=some (.int .i64 x.free):=ao.at_ 3;clear ao;go_wp2;go_ret;exact⟨Pl.ae (HF.out (by simp)).symm,aa aY.out HK.out⟩
     ·obtain⟨aR,bB,ao⟩:=iG.out cR HK.out;obtain⟨yz,y0,y1,y2,y3,y4,y5,y6⟩:=aR;obtain⟨lz,l0,l1,l2⟩:=bB;have ez:=ao.lt;have x0:cR.cell? ⟨E,0,none⟩=some (.string x.team):=ao.at_ 0;have x1:cR.cell? ⟨E,1,none⟩=some (.string x.res):=ao.at_ 1;have x2:cR.cell? ⟨E,2,none⟩=some (.int .i64 x.most):=ao.at_ 2;have x3:cR.cell? ⟨E,3,none⟩=some (.int .i64 x.free):=ao.at_ 3;clear ao;go_wp2_with fail
      refine(fV.out cR HK.out).mono ?_;rintro e w7 ⟨rfl,rfl⟩;clear yz y0 y1 y2 y3 y4 y5 y6 lz l0 l1 l2 ez x0 x1 x2 x3;cases b2
      ·obtain⟨aR,bB,ao⟩:=iG.out cR HK.out;obtain⟨yz,y0,y1,y2,y3,y4,y5,y6⟩:=aR;obtain⟨lz,l0,l1,l2⟩:=bB;have ez:=ao.lt;have x0:cR.cell? ⟨E,0,none⟩=some (.string x.team):=ao.at_ 0;have x1:cR.cell? ⟨E,1,none⟩=some (.string x.res):=ao.at_ 1;have x2:cR.cell? ⟨E,2,none⟩=some (.int .i64 x.most):=ao.at_ 2;have x3:cR.cell? ⟨E,3,none⟩=some (.int .i64 x.free):=ao.at_ 3;clear ao;go_wp2;go_ret;exact⟨Pl.ae (HF.out (by simp)).symm,aa aY.out HK.out⟩
      ·obtain⟨aR,bB,ao⟩:=iG.out cR HK.out;obtain⟨yz,y0,y1,y2,y3,y4,y5,y6⟩:=aR;obtain⟨lz,l0,l1,l2⟩:=bB;have ez:=ao.lt;have x0:cR.cell? ⟨E,0,none⟩=some (.string x.team):=ao.at_ 0;have x1:cR.cell? ⟨E,1,none⟩=some (.string x.res):=ao.at_ 1;have x2:cR.cell? ⟨E,2,none⟩=some (.int .i64 x.most):=ao.at_ 2;have x3:cR.cell? ⟨E,3,none⟩=some (.int .i64 x.free):=ao.at_ 3;clear ao;go_wp2_with fail
       refine(fc.out cR HK.out).mono ?_;rintro e w7 ⟨rfl,rfl⟩;clear yz y0 y1 y2 y3 y4 y5 y6 lz l0 l1 l2 ez x0 x1 x2 x3;cases b3
       ·obtain⟨aR,bB,ao⟩:=iG.out cR HK.out;obtain⟨yz,y0,y1,y2,y3,y4,y5,y6⟩:=aR;obtain⟨lz,l0,l1,l2⟩:=bB;have ez:=ao.lt;have x0:cR.cell? ⟨E,0,none⟩=some (.string x.team):=ao.at_ 0;have x1:cR.cell? ⟨E,1,none⟩=some (.string x.res):=ao.at_ 1;have x2:cR.cell? ⟨E,2,none⟩=some (.int .i64 x.most):=ao.at_ 2;have x3:cR.cell? ⟨E,3,none⟩=some (.int .i64 x.free):=ao.at_ 3;clear ao;go_wp2;go_ret;exact⟨Pl.ae (HF.out (by simp)).symm,aa aY.out HK.out⟩
       ·obtain⟨aR,bB,ao⟩:=iG.out cR HK.out;obtain⟨yz,y0,y1,y2,y3,y4,y5,y6⟩:=aR;obtain⟨lz,l0,l1,l2⟩:=bB;have ez:=ao.lt;have x0:cR.cell? ⟨E,0,none⟩=some (.string x.team):=ao.at_ 0;have x1:cR.cell? ⟨E,1,none⟩=some (.string x.res):=ao.at_ 1;have x2:cR.cell? ⟨E,2,none⟩=some (.int .i64 x.most):=ao.at_ 2;have x3:cR.cell? ⟨E,3,none⟩=some (.int .i64 x.free):=ao.at_ 3;clear ao;go_wp2_with fail
        refine(eX.out cR HK.out).mono ?_;rintro e w7 ⟨rfl,rfl⟩;clear yz y0 y1 y2 y3 y4 y5 y6 lz l0 l1 l2 ez x0 x1 x2 x3;cases b4
        ·obtain⟨aR,bB,ao⟩:=iG.out cR HK.out;obtain⟨yz,y0,y1,y2,y3,y4,y5,y6⟩:=aR;obtain⟨lz,l0,l1,l2⟩:=bB;have ez:=ao.lt;have x0:cR.cell? ⟨E,0,none⟩=some (.string x.team):=ao.at_ 0;have x1:cR.cell? ⟨E,1,none⟩=some (.string x.res):=ao.at_ 1;have x2:cR.cell? ⟨E,2,none⟩=some (.int .i64 x.most):=ao.at_ 2;have x3:cR.cell? ⟨E,3,none⟩=some (.int .i64 x.free):=ao.at_ 3;clear ao;go_wp2;go_ret;exact⟨Pl.ae (HF.out (by simp)).symm,aa aY.out HK.out⟩
        ·obtain⟨aR,bB,ao⟩:=iG.out cR HK.out;obtain⟨yz,y0,y1,y2,y3,y4,y5,y6⟩:=aR;obtain⟨lz,l0,l1,l2⟩:=bB;have ez:=ao.lt;have x0:cR.cell? ⟨E,0,none⟩=some (.string x.team):=ao.at_ 0;have x1:cR.cell? ⟨E,1,none⟩=some (.string x.res):=ao.at_ 1;have x2:cR.cell? ⟨E,2,none⟩=some (.int .i64 x.most):=ao.at_ 2;have x3:cR.cell? ⟨E,3,none⟩=some (.int .i64 x.free):=ao.at_ 3;clear ao;go_wp2;go_roundw
         case rel=>exact⟨q+1,by omega,by go_num,HT.out rfl,aa je.out HK.out⟩
         case measure=>simp[intOf];omega
    ·have HE:Hid (R=true):=by
      show R=true;rw[l3.out];obtain rfl:q=K.ledgers.length:=by omega
      exact HQ.out
     go_wp2;go_ret;exact⟨Pl.ae HE.out.symm,fu.out⟩
 ·have HE:Hid (R=false):=by show R=false;rw[HR.out];simp[hlen]
  go_wp2;go_ret;exact⟨Pl.ae HE.out.symm,cN.out⟩
theorem wJ (K:Bk) (e0 e1 e2 e3:Nat) (w:World) (hK:gp w e0 e1 e2 e3 K) (Bf:Hid (gj K.ledgers=true)) (ht0:0≤K.tick) (xZ:K.tick≤1000000):
  Calls Tryz.prog 41 #[.agg #[.int .i64 K.now,.int .i64 K.tick,.int .i64 K.given,.slice (some ⟨e0,0,none⟩) K.objects.length K.objects.length,.slice (some ⟨e1,0,none⟩) K.grants.length K.grants.length,.slice (some ⟨e2,0,none⟩) K.ledgers.length K.ledgers.length,.slice (some ⟨e3,0,none⟩) K.purses.length K.purses.length]] w fun e w'=>e=.returned (.bool (eF K))∧Bel w w':=by
 have HA:=hid (And.intro trivial hK);have hl:=hK.p.len;obtain⟨R,hR⟩:∃ R,R=eF K:=⟨_,rfl⟩
 have HR:Hid (R=(decide (K.purses.length≤24)&&mD K.purses&&aD (ct K) K.purses.length)):=hR;rw[← hR];clear hK hR;obtain⟨w1,dW⟩:∃ w1,w1=w.alloc (.cells #[.int .i64 K.now,.int .i64 K.tick,.int .i64 K.given,.slice (some ⟨e0,0,none⟩) K.objects.length K.objects.length,.slice (some ⟨e1,0,none⟩) K.grants.length K.grants.length,.slice (some ⟨e2,0,none⟩) K.ledgers.length K.ledgers.length,.slice (some ⟨e3,0,none⟩) K.purses.length K.purses.length] 47):=⟨_,rfl⟩
 have cN:Hid (Bel w w1):=by show Below _ _ _;rw[dW];exact ab br _
 have dD:Hid (∀ W,Bel w1 W→bm W w.heap.size (.int .i64 K.now) (.int .i64 K.tick) (.int .i64 K.given) (.slice (some ⟨e0,0,none⟩) K.objects.length K.objects.length) (.slice (some ⟨e1,0,none⟩) K.grants.length K.grants.length) (.slice (some ⟨e2,0,none⟩) K.ledgers.length K.ledgers.length) (.slice (some ⟨e3,0,none⟩) K.purses.length K.purses.length)∧True):=by
  have q:bm w1 w.heap.size (.int .i64 K.now) (.int .i64 K.tick) (.int .i64 K.given) (.slice (some ⟨e0,0,none⟩) K.objects.length K.objects.length) (.slice (some ⟨e1,0,none⟩) K.grants.length K.grants.length) (.slice (some ⟨e2,0,none⟩) K.ledgers.length K.ledgers.length) (.slice (some ⟨e3,0,none⟩) K.purses.length K.purses.length)∧True:=by rw[dW];exact⟨bm.bV w _ _ _ _ _ _ _ _ _ rfl,trivial⟩
  intro W hW;exact⟨q.1.later hW,trivial⟩
 go_enter Tryz.func41,Tryz.ntmps41
 go_upto_region 1 with fail
 rw[← dW];clear dW;obtain⟨aR,_⟩:=dD.out w1 br;obtain⟨yz,y0,y1,y2,y3,y4,y5,y6⟩:=aR;by_cases hlen:K.purses.length≤24
 ·obtain⟨ra,uO⟩:∃ ra,ra=mD K.purses:=⟨_,rfl⟩
  have HC:Hid (Calls Tryz.prog 94 #[.slice (some ⟨e3,0,none⟩) K.purses.length K.purses.length,.func (.func 95) #[] #[]] w1 fun e w'=>e=.returned (.bool ra)∧Bel w1 w'):=by
   show Calls _ _ _ _ _;rw[uO];exact ED _ _ _ (HA.out.2.later cN.out).p
  have yg:Hid (ra=mD K.purses):=uO;clear uO;go_wp2_with fail
  refine HC.out.mono ?_;rintro e w2 ⟨rfl,aA⟩;clear yz y0 y1 y2 y3 y4 y5 y6 HC;cases ra
  ·have HE:Hid (R=false):=by show R=false;rw[HR.out,← yg.out];simp
   go_wp2;go_ret;exact⟨Pl.ae HE.out.symm,aa cN.out aA⟩
  ·have l3:Hid (R=aD (ct K) K.purses.length):=by show R=_;rw[HR.out,← yg.out];simp[hlen]
   have HL:Hid (K.purses.length≤24):=hlen;clear hlen;obtain⟨aR,_⟩:=dD.out w2 aA;obtain⟨yz,y0,y1,y2,y3,y4,y5,y6⟩:=aR;go_wp2;clear yz y0 y1 y2 y3 y4 y5 y6;go_loopw [20] (fun i wr=>∃ q:Nat,q≤K.purses.length∧i=.int .i64 q∧aD (ct K) q=true∧Bel w1 wr) (fun i _=>K.purses.length - (intOf i).toNat)
   case atStart=>exact⟨0,nz,rfl,rfl,aA⟩
   case round=>
    obtain⟨q,hq,rfl,ha,hW⟩:=hrel;have HQ:Hid (aD (ct K) q=true):=ha;have fu:=hid (aa cN.out hW);clear ha;by_cases aw:q<K.purses.length
    ·obtain⟨x,hx⟩:∃ x,x=K.purses.getD q Ps.none:=⟨_,rfl⟩
     have bC:=(HA.out.2.later fu.out).p;have gx:=bC.lt;have eb:=bC.at_ q aw;rw[← hx]at eb;obtain⟨c0,c1,c2,c3,c4,eQ⟩:=eb;obtain⟨w4,ej⟩:∃ w4,w4=wr.alloc (.cells #[.string x.door,.string x.team,.string x.res,.int .i64 x.amount,.int .i64 x.til] 129):=⟨_,rfl⟩
     obtain⟨E,hE⟩:∃ E,E=wr.heap.size:=⟨_,rfl⟩
     have dC:Bel wr w4:=by rw[ej];exact ab br _
     have je:=hid (aa hW dC);have aY:=hid (aa fu.out dC);have iG:Hid (∀ W,Bel w4 W→bm W w.heap.size (.int .i64 K.now) (.int .i64 K.tick) (.int .i64 K.given) (.slice (some ⟨e0,0,none⟩) K.objects.length K.objects.length) (.slice (some ⟨e1,0,none⟩) K.grants.length K.grants.length) (.slice (some ⟨e2,0,none⟩) K.ledgers.length K.ledgers.length) (.slice (some ⟨e3,0,none⟩) K.purses.length K.purses.length)∧True∧aT W E #[.string x.door,.string x.team,.string x.res,.int .i64 x.amount,.int .i64 x.til]):=by
      intro W bG;have q:=dD.out W (aa je.out bG);refine⟨q.1,q.2,aT.later ?_ bG⟩;rw[ej];exact aT.bV _ _ _ _ hE
     obtain⟨b1,bj⟩:∃ b1,b1=decide (il K.ledgers x.team x.res<K.ledgers.length):=⟨_,rfl⟩
     obtain⟨pl,eI⟩:∃ pl,pl=dE K.ledgers x.team x.res:=⟨_,rfl⟩
     have eu:Hid (∀ W,Bel w4 W→Calls Tryz.prog 96 #[.slice (some ⟨e2,0,none⟩) K.ledgers.length K.ledgers.length,.string x.team,.string x.res] W fun e w'=>e=.returned (.tuple #[.int .i64 (pl:Nat),.bool b1])∧Bel W w'):=fun W bG=>by
      rw[bj,eI];have ft:=aa aY.out bG;exact mj e2 K.ledgers x.team x.res W (HA.out.2.later ft).l Bf.out
     clear eI;obtain⟨b2,aA⟩:∃ b2,b2=(Pl.aq x.door):=⟨_,rfl⟩
     have fV:Hid (∀ W,Bel w4 W→Calls Tryz.prog 89 #[.string x.door] W fun e w'=>e=.returned (.bool b2)∧W=w'):=fun W bG=>by
      rw[aA];have ft:=aa aY.out bG;exact aK x.door W eQ.1
     obtain⟨b3,aQ⟩:∃ b3,b3=(within x.amount 1 1000000):=⟨_,rfl⟩
     have fc:Hid (∀ W,Bel w4 W→Calls Tryz.prog 83 #[.int .i64 x.amount,.int .i64 1,.int .i64 1000000] W fun e w'=>e=.returned (.bool b3)∧W=w'):=fun W bG=>by
      rw[aQ];have ft:=aa aY.out bG;exact gZ _ _ _ W
     obtain⟨b4,cq⟩:∃ b4,b4=(within x.til K.tick (K.tick+10)):=⟨_,rfl⟩
     have eX:Hid (∀ W,Bel w4 W→Calls Tryz.prog 83 #[.int .i64 x.til,.int .i64 K.tick,.int .i64 (K.tick+10)] W fun e w'=>e=.returned (.bool b4)∧W=w'):=fun W bG=>by
      rw[cq];have ft:=aa aY.out bG;exact gZ _ _ _ W
     have HP:Hid (ct K q=(b1&&b2&&b3&&b4)):=by show ct K q=_;unfold ct lP;rw[← hx,bj,aA,aQ,cq]
     clear bj aA aQ cq eQ;have HF:Hid ((b1&&b2&&b3&&b4)=false→R=false):=fun hh=>by rw[l3.out];exact ba aw (HP.out.trans hh)
     have HT:Hid ((b1&&b2&&b3&&b4)=true→aD (ct K) (q+1)=true):=fun hh=>aU HQ.out (HP.out.trans hh);have HK:Hid (Bel w4 w4):=br;clear hx bC;obtain⟨aR,_⟩:=dD.out wr hW;obtain⟨yz,y0,y1,y2,y3,y4,y5,y6⟩:=aR;go_upto_region 6 with fail
     rw[← ej,← hE];clear ej hE dC c0 c1 c2 c3 c4 gx yz y0 y1 y2 y3 y4 y5 y6 hW;obtain⟨aR,bB,ao⟩:=iG.out w4 HK.out;obtain⟨yz,y0,y1,y2,y3,y4,y5,y6⟩:=aR;have ez:=ao.lt;have x0:w4.cell? ⟨E,0,none⟩=some (.string x.door):=ao.at_ 0;have x1:w4.cell? ⟨E,1,none⟩=some (.string x.team):=ao.at_ 1;have x2:w4.cell? ⟨E,2,none⟩=some (.string x.res):=ao.at_ 2;have x3:w4.cell? ⟨E,3,none⟩=some (.int .i64 x.amount):=ao.at_ 3;have x4:w4.cell? ⟨E,4,none⟩=some (.int .i64 x.til):=ao.at_ 4;clear ao bB;go_wp2_with fail
     refine(eu.out w4 HK.out).mono ?_;rintro e cR ⟨rfl,mw⟩;have iB:=aa HK.out mw;clear HK;have HK:Hid (Bel w4 cR):=iB;clear iB mw;clear yz y0 y1 y2 y3 y4 y5 y6 ez x0 x1 x2 x3 x4;cases b1
     ·obtain⟨aR,bB,ao⟩:=iG.out cR HK.out;obtain⟨yz,y0,y1,y2,y3,y4,y5,y6⟩:=aR;have ez:=ao.lt;have x0:cR.cell? ⟨E,0,none⟩=some (.string x.door):=ao.at_ 0;have x1:cR.cell? ⟨E,1,none⟩=some (.string x.team):=ao.at_ 1;have x2:cR.cell? ⟨E,2,none⟩=some (.string x.res):=ao.at_ 2;have x3:cR.cell? ⟨E,3,none⟩=some (.int .i64 x.amount):=ao.at_ 3;have x4:cR.cell? ⟨E,4,none⟩=some (.int .i64 x.til):=ao.at_ 4;clear ao bB;go_wp2;go_ret;exact⟨Pl.ae (HF.out (by simp)).symm,aa aY.out HK.out⟩
     ·obtain⟨aR,bB,ao⟩:=iG.out cR HK.out;obtain⟨yz,y0,y1,y2,y3,y4,y5,y6⟩:=aR;have ez:=ao.lt;have x0:cR.cell? ⟨E,0,none⟩=some (.string x.door):=ao.at_ 0;have x1:cR.cell? ⟨E,1,none⟩=some (.string x.team):=ao.at_ 1;have x2:cR.cell? ⟨E,2,none⟩=some (.string x.res):=ao.at_ 2;have x3:cR.cell? ⟨E,3,none⟩=some (.int .i64 x.amount):=ao.at_ 3;have x4:cR.cell? ⟨E,4,none⟩=some (.int .i64 x.til):=ao.at_ 4;clear ao bB;go_wp2_with fail
      refine(fV.out cR HK.out).mono ?_;rintro e w7 ⟨rfl,rfl⟩;clear yz y0 y1 y2 y3 y4 y5 y6 ez x0 x1 x2 x3 x4;cases b2
      ·obtain⟨aR,bB,ao⟩:=iG.out cR HK.out;obtain⟨yz,y0,y1,y2,y3,y4,y5,y6⟩:=aR;have ez:=ao.lt;have x0:cR.cell? ⟨E,0,none⟩=some (.string x.door):=ao.at_ 0;have x1:cR.cell? ⟨E,1,none⟩=some (.string x.team):=ao.at_ 1;have x2:cR.cell? ⟨E,2,none⟩=some (.string x.res):=ao.at_ 2;have x3:cR.cell? ⟨E,3,none⟩=some (.int .i64 x.amount):=ao.at_ 3;have x4:cR.cell? ⟨E,4,none⟩=some (.int .i64 x.til):=ao.at_ 4;clear ao bB;go_wp2;go_ret;exact⟨Pl.ae (HF.out (by simp)).symm,aa aY.out HK.out⟩
      ·obtain⟨aR,bB,ao⟩:=iG.out cR HK.out;obtain⟨yz,y0,y1,y2,y3,y4,y5,y6⟩:=aR;have ez:=ao.lt;have x0:cR.cell? ⟨E,0,none⟩=some (.string x.door):=ao.at_ 0;have x1:cR.cell? ⟨E,1,none⟩=some (.string x.team):=ao.at_ 1;have x2:cR.cell? ⟨E,2,none⟩=some (.string x.res):=ao.at_ 2;have x3:cR.cell? ⟨E,3,none⟩=some (.int .i64 x.amount):=ao.at_ 3;have x4:cR.cell? ⟨E,4,none⟩=some (.int .i64 x.til):=ao.at_ 4;clear ao bB;go_wp2_with fail
       refine(fc.out cR HK.out).mono ?_;rintro e w7 ⟨rfl,rfl⟩;clear yz y0 y1 y2 y3 y4 y5 y6 ez x0 x1 x2 x3 x4;cases b3
       ·obtain⟨aR,bB,ao⟩:=iG.out cR HK.out;obtain⟨yz,y0,y1,y2,y3,y4,y5,y6⟩:=aR;have ez:=ao.lt;have x0:cR.cell? ⟨E,0,none⟩=some (.string x.door):=ao.at_ 0;have x1:cR.cell? ⟨E,1,none⟩=some (.string x.team):=ao.at_ 1;have x2:cR.cell? ⟨E,2,none⟩=some (.string x.res):=ao.at_ 2;have x3:cR.cell? ⟨E,3,none⟩=some (.int .i64 x.amount):=ao.at_ 3;have x4:cR.cell? ⟨E,4,none⟩=some (.int .i64 x.til):=ao.at_ 4;clear ao bB;go_wp2;go_ret;exact⟨Pl.ae (HF.out (by simp)).symm,aa aY.out HK.out⟩
       ·obtain⟨aR,bB,ao⟩:=iG.out cR HK.out;obtain⟨yz,y0,y1,y2,y3,y4,y5,y6⟩:=aR;have ez:=ao.lt;have x0:cR.cell? ⟨E,0,none⟩=some (.string x.door):=ao.at_ 0;have x1:cR.cell? ⟨E,1,none⟩=some (.string x.team):=ao.at_ 1;have x2:cR.cell? ⟨E,2,none⟩=some (.string x.res):=ao.at_ 2;have x3:cR.cell? ⟨E,3,none⟩=some (.int .i64 x.amount):=ao.at_ 3;have x4:cR.cell? ⟨E,4,none⟩=some (.int .i64 x.til):=ao.at_ 4;clear ao bB;go_wp2_with fail
        refine(eX.out cR HK.out).mono ?_;rintro e w7 ⟨rfl,rfl⟩;clear yz y0 y1 y2 y3 y4 y5 y6 ez x0 x1 x2 x3 x4;cases b4
        ·obtain⟨aR,bB,ao⟩:=iG.out cR HK.out;obtain⟨yz,y0,y1,y2,y3,y4,y5,y6⟩:=aR;have ez:=ao.lt;have x0:cR.cell? ⟨E,0,none⟩=some (.string x.door):=ao.at_ 0;have x1:cR.cell? ⟨E,1,none⟩=some (.string x.team):=ao.at_ 1;have x2:cR.cell? ⟨E,2,none⟩=some (.string x.res):=ao.at_ 2;have x3:cR.cell? ⟨E,3,none⟩=some (.int .i64 x.amount):=ao.at_ 3;have x4:cR.cell? ⟨E,4,none⟩=some (.int .i64 x.til):=ao.at_ 4;clear ao bB;go_wp2;go_ret;exact⟨Pl.ae (HF.out (by simp)).symm,aa aY.out HK.out⟩
        ·obtain⟨aR,bB,ao⟩:=iG.out cR HK.out;obtain⟨yz,y0,y1,y2,y3,y4,y5,y6⟩:=aR;have ez:=ao.lt;have x0:cR.cell? ⟨E,0,none⟩=some (.string x.door):=ao.at_ 0;have x1:cR.cell? ⟨E,1,none⟩=some (.string x.team):=ao.at_ 1;have x2:cR.cell? ⟨E,2,none⟩=some (.string x.res):=ao.at_ 2;have x3:cR.cell? ⟨E,3,none⟩=some (.int .i64 x.amount):=ao.at_ 3;have x4:cR.cell? ⟨E,4,none⟩=some (.int .i64 x.til):=ao.at_ 4;clear ao bB;go_wp2;go_roundw
         case rel=>exact⟨q+1,by omega,by go_num,HT.out rfl,aa je.out HK.out⟩
         case measure=>simp[intOf];omega
    ·have HE:Hid (R=true):=by
      show R=true;rw[l3.out];obtain rfl:q=K.purses.length:=by omega
      exact HQ.out
     go_wp2;go_ret;exact⟨Pl.ae HE.out.symm,fu.out⟩
 ·have HE:Hid (R=false):=by show R=false;rw[HR.out];simp[hlen]
  go_wp2;go_ret;exact⟨Pl.ae HE.out.symm,cN.out⟩
theorem xw (K:Bk) (e0 e1 e2 e3:Nat) (w:World) (hK:gp w e0 e1 e2 e3 K):
  Calls Tryz.prog 39 #[.agg #[.int .i64 K.now,.int .i64 K.tick,.int .i64 K.given,.slice (some ⟨e0,0,none⟩) K.objects.length K.objects.length,.slice (some ⟨e1,0,none⟩) K.grants.length K.grants.length,.slice (some ⟨e2,0,none⟩) K.ledgers.length K.ledgers.length,.slice (some ⟨e3,0,none⟩) K.purses.length K.purses.length]] w fun e w'=>e=.returned (.bool (eU K))∧Bel w w':=by
 have HA:=hid (And.intro trivial hK);have hl:=hK.g.len;obtain⟨R,hR⟩:∃ R,R=eU K:=⟨_,rfl⟩
 have HR:Hid (R=(decide (K.grants.length≤24)&&nC K.grants&&aD (bZ K) K.grants.length)):=hR;rw[← hR];clear hK hR;obtain⟨w1,dW⟩:∃ w1,w1=w.alloc (.cells #[.int .i64 K.now,.int .i64 K.tick,.int .i64 K.given,.slice (some ⟨e0,0,none⟩) K.objects.length K.objects.length,.slice (some ⟨e1,0,none⟩) K.grants.length K.grants.length,.slice (some ⟨e2,0,none⟩) K.ledgers.length K.ledgers.length,.slice (some ⟨e3,0,none⟩) K.purses.length K.purses.length] 47):=⟨_,rfl⟩
 have cN:Hid (Bel w w1):=by show Below _ _ _;rw[dW];exact ab br _
 have dD:Hid (∀ W,Bel w1 W→bm W w.heap.size (.int .i64 K.now) (.int .i64 K.tick) (.int .i64 K.given) (.slice (some ⟨e0,0,none⟩) K.objects.length K.objects.length) (.slice (some ⟨e1,0,none⟩) K.grants.length K.grants.length) (.slice (some ⟨e2,0,none⟩) K.ledgers.length K.ledgers.length) (.slice (some ⟨e3,0,none⟩) K.purses.length K.purses.length)∧True):=by
  have q:bm w1 w.heap.size (.int .i64 K.now) (.int .i64 K.tick) (.int .i64 K.given) (.slice (some ⟨e0,0,none⟩) K.objects.length K.objects.length) (.slice (some ⟨e1,0,none⟩) K.grants.length K.grants.length) (.slice (some ⟨e2,0,none⟩) K.ledgers.length K.ledgers.length) (.slice (some ⟨e3,0,none⟩) K.purses.length K.purses.length)∧True:=by rw[dW];exact⟨bm.bV w _ _ _ _ _ _ _ _ _ rfl,trivial⟩
  intro W hW;exact⟨q.1.later hW,trivial⟩
 go_enter Tryz.func39,Tryz.ntmps39
 go_upto_region 1 with fail
 rw[← dW];clear dW;obtain⟨aR,_⟩:=dD.out w1 br;obtain⟨yz,y0,y1,y2,y3,y4,y5,y6⟩:=aR;by_cases hlen:K.grants.length≤24
 ·obtain⟨ra,uO⟩:∃ ra,ra=nC K.grants:=⟨_,rfl⟩
  have HC:Hid (Calls Tryz.prog 87 #[.slice (some ⟨e1,0,none⟩) K.grants.length K.grants.length,.func (.func 88) #[] #[]] w1 fun e w'=>e=.returned (.bool ra)∧Bel w1 w'):=by
   show Calls _ _ _ _ _;rw[uO];exact Ed _ _ _ (HA.out.2.later cN.out).g
  have yg:Hid (ra=nC K.grants):=uO;clear uO;go_wp2_with fail
  refine HC.out.mono ?_;rintro e w2 ⟨rfl,aA⟩;clear yz y0 y1 y2 y3 y4 y5 y6 HC;cases ra
  ·have HE:Hid (R=false):=by show R=false;rw[HR.out,← yg.out];simp
   go_wp2;go_ret;exact⟨Pl.ae HE.out.symm,aa cN.out aA⟩
  ·have l3:Hid (R=aD (bZ K) K.grants.length):=by show R=_;rw[HR.out,← yg.out];simp[hlen]
   have HL:=hid hlen;clear hlen;obtain⟨aR,_⟩:=dD.out w2 aA;obtain⟨yz,y0,y1,y2,y3,y4,y5,y6⟩:=aR;go_wp2;clear yz y0 y1 y2 y3 y4 y5 y6;go_loopw [19] (fun i wr=>∃ q:Nat,q≤K.grants.length∧i=.int .i64 q∧aD (bZ K) q=true∧Bel w1 wr) (fun i _=>K.grants.length - (intOf i).toNat)
   case atStart=>exact⟨0,nz,rfl,rfl,aA⟩
   case round=>
    obtain⟨q,hq,rfl,ha,hW⟩:=hrel;have HQ:Hid (aD (bZ K) q=true):=ha;have fu:=hid (aa cN.out hW);clear ha;by_cases aw:q<K.grants.length
    ·obtain⟨x,hx⟩:∃ x,x=K.grants.getD q Gr.none:=⟨_,rfl⟩
     have bC:=(HA.out.2.later fu.out).g;have gx:=bC.lt;have eb:=bC.at_ q aw;rw[← hx]at eb;obtain⟨b1x,_,c0,c1,c2,c3,c4,c5,c6,sQ⟩:=eb;obtain⟨w4,ej⟩:∃ w4,w4=wr.alloc (.cells #[.int .i64 x.number,.string x.too,.string x.by_,.slice (some ⟨b1x,0,none⟩) x.rule.verbs.length x.rule.verbs.length,.string x.rule.kind,.string x.rule.team,.string x.rule.pre] 126):=⟨_,rfl⟩
     obtain⟨E,hE⟩:∃ E,E=wr.heap.size:=⟨_,rfl⟩
     have dC:Bel wr w4:=by rw[ej];exact ab br _
     have je:=hid (aa hW dC);have aY:=hid (aa fu.out dC);have iG:Hid (∀ W,Bel w4 W→bm W w.heap.size (.int .i64 K.now) (.int .i64 K.tick) (.int .i64 K.given) (.slice (some ⟨e0,0,none⟩) K.objects.length K.objects.length) (.slice (some ⟨e1,0,none⟩) K.grants.length K.grants.length) (.slice (some ⟨e2,0,none⟩) K.ledgers.length K.ledgers.length) (.slice (some ⟨e3,0,none⟩) K.purses.length K.purses.length)∧True∧aT W E #[.int .i64 x.number,.string x.too,.string x.by_,.slice (some ⟨b1x,0,none⟩) x.rule.verbs.length x.rule.verbs.length,.string x.rule.kind,.string x.rule.team,.string x.rule.pre]):=by
      intro W bG;have q:=dD.out W (aa je.out bG);refine⟨q.1,q.2,aT.later ?_ bG⟩;rw[ej];exact aT.bV _ _ _ _ hE
     obtain⟨b1,bj⟩:∃ b1,b1=(within x.number 1 K.given):=⟨_,rfl⟩
     have eu:Hid (∀ W,Bel w4 W→Calls Tryz.prog 83 #[.int .i64 x.number,.int .i64 1,.int .i64 K.given] W fun e w'=>e=.returned (.bool b1)∧W=w'):=fun W bG=>by
      rw[bj];have ft:=aa aY.out bG;exact gZ _ _ _ W
     obtain⟨b2,aA⟩:∃ b2,b2=(Pl.aq x.too):=⟨_,rfl⟩
     have fV:Hid (∀ W,Bel w4 W→Calls Tryz.prog 89 #[.string x.too] W fun e w'=>e=.returned (.bool b2)∧W=w'):=fun W bG=>by
      rw[aA];have ft:=aa aY.out bG;exact aK x.too W sQ.2.1
     obtain⟨b3,aQ⟩:∃ b3,b3=(Pl.aq x.by_):=⟨_,rfl⟩
     have fc:Hid (∀ W,Bel w4 W→Calls Tryz.prog 89 #[.string x.by_] W fun e w'=>e=.returned (.bool b3)∧W=w'):=fun W bG=>by
      rw[aQ];have ft:=aa aY.out bG;exact aK x.by_ W sQ.2.2.1
     obtain⟨b4,cq⟩:∃ b4,b4=(eo x.rule):=⟨_,rfl⟩
     have eX:Hid (∀ W,Bel w4 W→Calls Tryz.prog 90 #[.agg #[.slice (some ⟨b1x,0,none⟩) x.rule.verbs.length x.rule.verbs.length,.string x.rule.kind,.string x.rule.team,.string x.rule.pre]] W fun e w'=>e=.returned (.bool b4)∧Bel W w'):=fun W bG=>by
      rw[cq];have ft:=aa aY.out bG;exact tp b1x x.rule W ((sQ.1.later dC).later bG) sQ.2.2.2.2
     have HP:Hid (bZ K q=(b1&&b2&&(x.by_.toList.isEmpty||b3)&&b4)):=by show bZ K q=_;unfold bZ m8;rw[← hx,bj,aA,aQ,cq]
     clear bj aA aQ cq sQ;have HF:Hid ((b1&&b2&&(x.by_.toList.isEmpty||b3)&&b4)=false→R=false):=fun hh=>by rw[l3.out];exact ba aw (HP.out.trans hh)
     have HT:Hid ((b1&&b2&&(x.by_.toList.isEmpty||b3)&&b4)=true→aD (bZ K) (q+1)=true):=fun hh=>aU HQ.out (HP.out.trans hh);have HK:Hid (Bel w4 w4):=br;clear hx bC;obtain⟨aR,_⟩:=dD.out wr hW;obtain⟨yz,y0,y1,y2,y3,y4,y5,y6⟩:=aR;go_upto_region 6 with fail
     rw[← ej,← hE];clear ej hE dC c0 c1 c2 c3 c4 c5 c6 gx yz y0 y1 y2 y3 y4 y5 y6 hW;cases he:x.by_.toList.isEmpty
     ·obtain⟨aR,bB,ao⟩:=iG.out w4 HK.out;obtain⟨yz,y0,y1,y2,y3,y4,y5,y6⟩:=aR;have ez:=ao.lt;have x0:w4.cell? ⟨E,0,none⟩=some (.int .i64 x.number):=ao.at_ 0;have x1:w4.cell? ⟨E,1,none⟩=some (.string x.too):=ao.at_ 1;have x2:w4.cell? ⟨E,2,none⟩=some (.string x.by_):=ao.at_ 2;have x3:w4.cell? ⟨E,3,none⟩=some (.slice (some ⟨b1x,0,none⟩) x.rule.verbs.length x.rule.verbs.length):=ao.at_ 3;have x4:w4.cell? ⟨E,4,none⟩=some (.string x.rule.kind):=ao.at_ 4;have x5:w4.cell? ⟨E,5,none⟩=some (.string x.rule.team):=ao.at_ 5;have x6:w4.cell? ⟨E,6,none⟩=some (.string x.rule.pre):=ao.at_ 6;clear ao bB;go_wp2_with fail
      refine(fc.out w4 HK.out).mono ?_;rintro e w7 ⟨rfl,rfl⟩;clear yz y0 y1 y2 y3 y4 y5 y6 ez x0 x1 x2 x3 x4 x5 x6;cases b3
      ·obtain⟨aR,bB,ao⟩:=iG.out w4 HK.out;obtain⟨yz,y0,y1,y2,y3,y4,y5,y6⟩:=aR;have ez:=ao.lt;have x0:w4.cell? ⟨E,0,none⟩=some (.int .i64 x.number):=ao.at_ 0;have x1:w4.cell? ⟨E,1,none⟩=some (.string x.too):=ao.at_ 1;have x2:w4.cell? ⟨E,2,none⟩=some (.string x.by_):=ao.at_ 2;have x3:w4.cell? ⟨E,3,none⟩=some (.slice (some ⟨b1x,0,none⟩) x.rule.verbs.length x.rule.verbs.length):=ao.at_ 3;have x4:w4.cell? ⟨E,4,none⟩=some (.string x.rule.kind):=ao.at_ 4;have x5:w4.cell? ⟨E,5,none⟩=some (.string x.rule.team):=ao.at_ 5;have x6:w4.cell? ⟨E,6,none⟩=some (.string x.rule.pre):=ao.at_ 6;clear ao bB;go_wp2_with fail
       refine(eu.out w4 HK.out).mono ?_;rintro e w7 ⟨rfl,rfl⟩;clear yz y0 y1 y2 y3 y4 y5 y6 ez x0 x1 x2 x3 x4 x5 x6;cases b1
       ·obtain⟨aR,bB,ao⟩:=iG.out w4 HK.out;obtain⟨yz,y0,y1,y2,y3,y4,y5,y6⟩:=aR;have ez:=ao.lt;have x0:w4.cell? ⟨E,0,none⟩=some (.int .i64 x.number):=ao.at_ 0;have x1:w4.cell? ⟨E,1,none⟩=some (.string x.too):=ao.at_ 1;have x2:w4.cell? ⟨E,2,none⟩=some (.string x.by_):=ao.at_ 2;have x3:w4.cell? ⟨E,3,none⟩=some (.slice (some ⟨b1x,0,none⟩) x.rule.verbs.length x.rule.verbs.length):=ao.at_ 3;have x4:w4.cell? ⟨E,4,none⟩=some (.string x.rule.kind):=ao.at_ 4;have x5:w4.cell? ⟨E,5,none⟩=some (.string x.rule.team):=ao.at_ 5;have x6:w4.cell? ⟨E,6,none⟩=some (.string x.rule.pre):=ao.at_ 6;clear ao bB;go_wp2;go_ret;exact⟨Pl.ae (HF.out (by simp[he])).symm,aa aY.out HK.out⟩
       ·obtain⟨aR,bB,ao⟩:=iG.out w4 HK.out;obtain⟨yz,y0,y1,y2,y3,y4,y5,y6⟩:=aR;have ez:=ao.lt;have x0:w4.cell? ⟨E,0,none⟩=some (.int .i64 x.number):=ao.at_ 0;have x1:w4.cell? ⟨E,1,none⟩=some (.string x.too):=ao.at_ 1;have x2:w4.cell? ⟨E,2,none⟩=some (.string x.by_):=ao.at_ 2;have x3:w4.cell? ⟨E,3,none⟩=some (.slice (some ⟨b1x,0,none⟩) x.rule.verbs.length x.rule.verbs.length):=ao.at_ 3;have x4:w4.cell? ⟨E,4,none⟩=some (.string x.rule.kind):=ao.at_ 4;have x5:w4.cell? ⟨E,5,none⟩=some (.string x.rule.team):=ao.at_ 5;have x6:w4.cell? ⟨E,6,none⟩=some (.string x.rule.pre):=ao.at_ 6;clear ao bB;go_wp2_with fail
        refine(fV.out w4 HK.out).mono ?_;rintro e w7 ⟨rfl,rfl⟩;clear yz y0 y1 y2 y3 y4 y5 y6 ez x0 x1 x2 x3 x4 x5 x6;cases b2
        ·obtain⟨aR,bB,ao⟩:=iG.out w4 HK.out;obtain⟨yz,y0,y1,y2,y3,y4,y5,y6⟩:=aR;have ez:=ao.lt;have x0:w4.cell? ⟨E,0,none⟩=some (.int .i64 x.number):=ao.at_ 0;have x1:w4.cell? ⟨E,1,none⟩=some (.string x.too):=ao.at_ 1;have x2:w4.cell? ⟨E,2,none⟩=some (.string x.by_):=ao.at_ 2;have x3:w4.cell? ⟨E,3,none⟩=some (.slice (some ⟨b1x,0,none⟩) x.rule.verbs.length x.rule.verbs.length):=ao.at_ 3;have x4:w4.cell? ⟨E,4,none⟩=some (.string x.rule.kind):=ao.at_ 4;have x5:w4.cell? ⟨E,5,none⟩=some (.string x.rule.team):=ao.at_ 5;have x6:w4.cell? ⟨E,6,none⟩=some (.string x.rule.pre):=ao.at_ 6;clear ao bB;go_wp2;go_ret;exact⟨Pl.ae (HF.out (by simp[he])).symm,aa aY.out HK.out⟩
        ·obtain⟨aR,bB,ao⟩:=iG.out w4 HK.out;obtain⟨yz,y0,y1,y2,y3,y4,y5,y6⟩:=aR;have ez:=ao.lt;have x0:w4.cell? ⟨E,0,none⟩=some (.int .i64 x.number):=ao.at_ 0;have x1:w4.cell? ⟨E,1,none⟩=some (.string x.too):=ao.at_ 1;have x2:w4.cell? ⟨E,2,none⟩=some (.string x.by_):=ao.at_ 2;have x3:w4.cell? ⟨E,3,none⟩=some (.slice (some ⟨b1x,0,none⟩) x.rule.verbs.length x.rule.verbs.length):=ao.at_ 3;have x4:w4.cell? ⟨E,4,none⟩=some (.string x.rule.kind):=ao.at_ 4;have x5:w4.cell? ⟨E,5,none⟩=some (.string x.rule.team):=ao.at_ 5;have x6:w4.cell? ⟨E,6,none⟩=some (.string x.rule.pre):=ao.at_ 6;clear ao bB;go_wp2;go_ret;exact⟨Pl.ae (HF.out (by simp[he])).symm,aa aY.out HK.out⟩
      ·obtain⟨aR,bB,ao⟩:=iG.out w4 HK.out;obtain⟨yz,y0,y1,y2,y3,y4,y5,y6⟩:=aR;have ez:=ao.lt;have x0:w4.cell? ⟨E,0,none⟩=some (.int .i64 x.number):=ao.at_ 0;have x1:w4.cell? ⟨E,1,none⟩=some (.string x.too):=ao.at_ 1;have x2:w4.cell? ⟨E,2,none⟩=some (.string x.by_):=ao.at_ 2;have x3:w4.cell? ⟨E,3,none⟩=some (.slice (some ⟨b1x,0,none⟩) x.rule.verbs.length x.rule.verbs.length):=ao.at_ 3;have x4:w4.cell? ⟨E,4,none⟩=some (.string x.rule.kind):=ao.at_ 4;have x5:w4.cell? ⟨E,5,none⟩=some (.string x.rule.team):=ao.at_ 5;have x6:w4.cell? ⟨E,6,none⟩=some (.string x.rule.pre):=ao.at_ 6;clear ao bB;go_wp2_with fail
       refine(eu.out w4 HK.out).mono ?_;rintro e w7 ⟨rfl,rfl⟩;clear yz y0 y1 y2 y3 y4 y5 y6 ez x0 x1 x2 x3 x4 x5 x6;cases b1
       ·obtain⟨aR,bB,ao⟩:=iG.out w4 HK.out;obtain⟨yz,y0,y1,y2,y3,y4,y5,y6⟩:=aR;have ez:=ao.lt;have x0:w4.cell? ⟨E,0,none⟩=some (.int .i64 x.number):=ao.at_ 0;have x1:w4.cell? ⟨E,1,none⟩=some (.string x.too):=ao.at_ 1;have x2:w4.cell? ⟨E,2,none⟩=some (.string x.by_):=ao.at_ 2;have x3:w4.cell? ⟨E,3,none⟩=some (.slice (some ⟨b1x,0,none⟩) x.rule.verbs.length x.rule.verbs.length):=ao.at_ 3;have x4:w4.cell? ⟨E,4,none⟩=some (.string x.rule.kind):=ao.at_ 4;have x5:w4.cell? ⟨E,5,none⟩=some (.string x.rule.team):=ao.at_ 5;have x6:w4.cell? ⟨E,6,none⟩=some (.string x.rule.pre):=ao.at_ 6;clear ao bB;go_wp2;go_ret;exact⟨Pl.ae (HF.out (by simp[he])).symm,aa aY.out HK.out⟩
       ·obtain⟨aR,bB,ao⟩:=iG.out w4 HK.out;obtain⟨yz,y0,y1,y2,y3,y4,y5,y6⟩:=aR;have ez:=ao.lt;have x0:w4.cell? ⟨E,0,none⟩=some (.int .i64 x.number):=ao.at_ 0;have x1:w4.cell? ⟨E,1,none⟩=some (.string x.too):=ao.at_ 1;have x2:w4.cell? ⟨E,2,none⟩=some (.string x.by_):=ao.at_ 2;have x3:w4.cell? ⟨E,3,none⟩=some (.slice (some ⟨b1x,0,none⟩) x.rule.verbs.length x.rule.verbs.length):=ao.at_ 3;have x4:w4.cell? ⟨E,4,none⟩=some (.string x.rule.kind):=ao.at_ 4;have x5:w4.cell? ⟨E,5,none⟩=some (.string x.rule.team):=ao.at_ 5;have x6:w4.cell? ⟨E,6,none⟩=some (.string x.rule.pre):=ao.at_ 6;clear ao bB;go_wp2_with fail
        refine(fV.out w4 HK.out).mono ?_;rintro e w7 ⟨rfl,rfl⟩;clear yz y0 y1 y2 y3 y4 y5 y6 ez x0 x1 x2 x3 x4 x5 x6;cases b2
        ·obtain⟨aR,bB,ao⟩:=iG.out w4 HK.out;obtain⟨yz,y0,y1,y2,y3,y4,y5,y6⟩:=aR;have ez:=ao.lt;have x0:w4.cell? ⟨E,0,none⟩=some (.int .i64 x.number):=ao.at_ 0;have x1:w4.cell? ⟨E,1,none⟩=some (.string x.too):=ao.at_ 1;have x2:w4.cell? ⟨E,2,none⟩=some (.string x.by_):=ao.at_ 2;have x3:w4.cell? ⟨E,3,none⟩=some (.slice (some ⟨b1x,0,none⟩) x.rule.verbs.length x.rule.verbs.length):=ao.at_ 3;have x4:w4.cell? ⟨E,4,none⟩=some (.string x.rule.kind):=ao.at_ 4;have x5:w4.cell? ⟨E,5,none⟩=some (.string x.rule.team):=ao.at_ 5;have x6:w4.cell? ⟨E,6,none⟩=some (.string x.rule.pre):=ao.at_ 6;clear ao bB;go_wp2;go_ret;exact⟨Pl.ae (HF.out (by simp[he])).symm,aa aY.out HK.out⟩
        ·obtain⟨aR,bB,ao⟩:=iG.out w4 HK.out;obtain⟨yz,y0,y1,y2,y3,y4,y5,y6⟩:=aR;have ez:=ao.lt;have x0:w4.cell? ⟨E,0,none⟩=some (.int .i64 x.number):=ao.at_ 0;have x1:w4.cell? ⟨E,1,none⟩=some (.string x.too):=ao.at_ 1;have x2:w4.cell? ⟨E,2,none⟩=some (.string x.by_):=ao.at_ 2;have x3:w4.cell? ⟨E,3,none⟩=some (.slice (some ⟨b1x,0,none⟩) x.rule.verbs.length x.rule.verbs.length):=ao.at_ 3;have x4:w4.cell? ⟨E,4,none⟩=some (.string x.rule.kind):=ao.at_ 4;have x5:w4.cell? ⟨E,5,none⟩=some (.string x.rule.team):=ao.at_ 5;have x6:w4.cell? ⟨E,6,none⟩=some (.string x.rule.pre):=ao.at_ 6;clear ao bB;go_wp2_with fail
         refine(eX.out w4 HK.out).mono ?_;rintro e km ⟨rfl,mw⟩;have iB:=aa HK.out mw;clear HK;have HK:Hid (Bel w4 km):=iB;clear iB mw;clear yz y0 y1 y2 y3 y4 y5 y6 ez x0 x1 x2 x3 x4 x5 x6;cases b4
         ·obtain⟨aR,bB,ao⟩:=iG.out km HK.out;obtain⟨yz,y0,y1,y2,y3,y4,y5,y6⟩:=aR;have ez:=ao.lt;have x0:km.cell? ⟨E,0,none⟩=some (.int .i64 x.number):=ao.at_ 0;have x1:km.cell? ⟨E,1,none⟩=some (.string x.too):=ao.at_ 1;have x2:km.cell? ⟨E,2,none⟩=some (.string x.by_):=ao.at_ 2;have x3:km.cell? ⟨E,3,none⟩=some (.slice (some ⟨b1x,0,none⟩) x.rule.verbs.length x.rule.verbs.length):=ao.at_ 3;have x4:km.cell? ⟨E,4,none⟩=some (.string x.rule.kind):=ao.at_ 4;have x5:km.cell? ⟨E,5,none⟩=some (.string x.rule.team):=ao.at_ 5;have x6:km.cell? ⟨E,6,none⟩=some (.string x.rule.pre):=ao.at_ 6;clear ao bB;go_wp2;go_ret;exact⟨Pl.ae (HF.out (by simp[he])).symm,aa aY.out HK.out⟩
         ·obtain⟨aR,bB,ao⟩:=iG.out km HK.out;obtain⟨yz,y0,y1,y2,y3,y4,y5,y6⟩:=aR;have ez:=ao.lt;have x0:km.cell? ⟨E,0,none⟩=some (.int .i64 x.number):=ao.at_ 0;have x1:km.cell? ⟨E,1,none⟩=some (.string x.too):=ao.at_ 1;have x2:km.cell? ⟨E,2,none⟩=some (.string x.by_):=ao.at_ 2;have x3:km.cell? ⟨E,3,none⟩=some (.slice (some ⟨b1x,0,none⟩) x.rule.verbs.length x.rule.verbs.length):=ao.at_ 3;have x4:km.cell? ⟨E,4,none⟩=some (.string x.rule.kind):=ao.at_ 4;have x5:km.cell? ⟨E,5,none⟩=some (.string x.rule.team):=ao.at_ 5;have x6:km.cell? ⟨E,6,none⟩=some (.string x.rule.pre):=ao.at_ 6;clear ao bB;go_wp2;go_roundw
          case rel=>exact⟨q+1,by omega,by go_num,HT.out (by simp[he]),aa je.out HK.out⟩
          case measure=>simp[intOf];omega
     ·obtain⟨aR,bB,ao⟩:=iG.out w4 HK.out;obtain⟨yz,y0,y1,y2,y3,y4,y5,y6⟩:=aR;have ez:=ao.lt;have x0:w4.cell? ⟨E,0,none⟩=some (.int .i64 x.number):=ao.at_ 0;have x1:w4.cell? ⟨E,1,none⟩=some (.string x.too):=ao.at_ 1;have x2:w4.cell? ⟨E,2,none⟩=some (.string x.by_):=ao.at_ 2;have x3:w4.cell? ⟨E,3,none⟩=some (.slice (some ⟨b1x,0,none⟩) x.rule.verbs.length x.rule.verbs.length):=ao.at_ 3;have x4:w4.cell? ⟨E,4,none⟩=some (.string x.rule.kind):=ao.at_ 4;have x5:w4.cell? ⟨E,5,none⟩=some (.string x.rule.team):=ao.at_ 5;have x6:w4.cell? ⟨E,6,none⟩=some (.string x.rule.pre):=ao.at_ 6;clear ao bB;go_wp2_with fail
      refine(eu.out w4 HK.out).mono ?_;rintro e w7 ⟨rfl,rfl⟩;clear yz y0 y1 y2 y3 y4 y5 y6 ez x0 x1 x2 x3 x4 x5 x6;cases b1
      ·obtain⟨aR,bB,ao⟩:=iG.out w4 HK.out;obtain⟨yz,y0,y1,y2,y3,y4,y5,y6⟩:=aR;have ez:=ao.lt;have x0:w4.cell? ⟨E,0,none⟩=some (.int .i64 x.number):=ao.at_ 0;have x1:w4.cell? ⟨E,1,none⟩=some (.string x.too):=ao.at_ 1;have x2:w4.cell? ⟨E,2,none⟩=some (.string x.by_):=ao.at_ 2;have x3:w4.cell? ⟨E,3,none⟩=some (.slice (some ⟨b1x,0,none⟩) x.rule.verbs.length x.rule.verbs.length):=ao.at_ 3;have x4:w4.cell? ⟨E,4,none⟩=some (.string x.rule.kind):=ao.at_ 4;have x5:w4.cell? ⟨E,5,none⟩=some (.string x.rule.team):=ao.at_ 5;have x6:w4.cell? ⟨E,6,none⟩=some (.string x.rule.pre):=ao.at_ 6;clear ao bB;go_wp2;go_ret;exact⟨Pl.ae (HF.out (by simp[he])).symm,aa aY.out HK.out⟩
      ·obtain⟨aR,bB,ao⟩:=iG.out w4 HK.out;obtain⟨yz,y0,y1,y2,y3,y4,y5,y6⟩:=aR;have ez:=ao.lt;have x0:w4.cell? ⟨E,0,none⟩=some (.int .i64 x.number):=ao.at_ 0;have x1:w4.cell? ⟨E,1,none⟩=some (.string x.too):=ao.at_ 1;have x2:w4.cell? ⟨E,2,none⟩=some (.string x.by_):=ao.at_ 2;have x3:w4.cell? ⟨E,3,none⟩=some (.slice (some ⟨b1x,0,none⟩) x.rule.verbs.length x.rule.verbs.length):=ao.at_ 3;have x4:w4.cell? ⟨E,4,none⟩=some (.string x.rule.kind):=ao.at_ 4;have x5:w4.cell? ⟨E,5,none⟩=some (.string x.rule.team):=ao.at_ 5;have x6:w4.cell? ⟨E,6,none⟩=some (.string x.rule.pre):=ao.at_ 6;clear ao bB;go_wp2_with fail
       refine(fV.out w4 HK.out).mono ?_;rintro e w7 ⟨rfl,rfl⟩;clear yz y0 y1 y2 y3 y4 y5 y6 ez x0 x1 x2 x3 x4 x5 x6;cases b2
       ·obtain⟨aR,bB,ao⟩:=iG.out w4 HK.out;obtain⟨yz,y0,y1,y2,y3,y4,y5,y6⟩:=aR;have ez:=ao.lt;have x0:w4.cell? ⟨E,0,none⟩=some (.int .i64 x.number):=ao.at_ 0;have x1:w4.cell? ⟨E,1,none⟩=some (.string x.too):=ao.at_ 1;have x2:w4.cell? ⟨E,2,none⟩=some (.string x.by_):=ao.at_ 2;have x3:w4.cell? ⟨E,3,none⟩=some (.slice (some ⟨b1x,0,none⟩) x.rule.verbs.length x.rule.verbs.length):=ao.at_ 3;have x4:w4.cell? ⟨E,4,none⟩=some (.string x.rule.kind):=ao.at_ 4;have x5:w4.cell? ⟨E,5,none⟩=some (.string x.rule.team):=ao.at_ 5;have x6:w4.cell? ⟨E,6,none⟩=some (.string x.rule.pre):=ao.at_ 6;clear ao bB;go_wp2;go_ret;exact⟨Pl.ae (HF.out (by simp[he])).symm,aa aY.out HK.out⟩
       ·obtain⟨aR,bB,ao⟩:=iG.out w4 HK.out;obtain⟨yz,y0,y1,y2,y3,y4,y5,y6⟩:=aR;have ez:=ao.lt;have x0:w4.cell? ⟨E,0,none⟩=some (.int .i64 x.number):=ao.at_ 0;have x1:w4.cell? ⟨E,1,none⟩=some (.string x.too):=ao.at_ 1;have x2:w4.cell? ⟨E,2,none⟩=some (.string x.by_):=ao.at_ 2;have x3:w4.cell? ⟨E,3,none⟩=some (.slice (some ⟨b1x,0,none⟩) x.rule.verbs.length x.rule.verbs.length):=ao.at_ 3;have x4:w4.cell? ⟨E,4,none⟩=some (.string x.rule.kind):=ao.at_ 4;have x5:w4.cell? ⟨E,5,none⟩=some (.string x.rule.team):=ao.at_ 5;have x6:w4.cell? ⟨E,6,none⟩=some (.string x.rule.pre):=ao.at_ 6;clear ao bB;go_wp2_with fail
        refine(eX.out w4 HK.out).mono ?_;rintro e km ⟨rfl,mw⟩;have iB:=aa HK.out mw;clear HK;have HK:Hid (Bel w4 km):=iB;clear iB mw;clear yz y0 y1 y2 y3 y4 y5 y6 ez x0 x1 x2 x3 x4 x5 x6;cases b4
        ·obtain⟨aR,bB,ao⟩:=iG.out km HK.out;obtain⟨yz,y0,y1,y2,y3,y4,y5,y6⟩:=aR;have ez:=ao.lt;have x0:km.cell? ⟨E,0,none⟩=some (.int .i64 x.number):=ao.at_ 0;have x1:km.cell? ⟨E,1,none⟩=some (.string x.too):=ao.at_ 1;have x2:km.cell? ⟨E,2,none⟩=some (.string x.by_):=ao.at_ 2;have x3:km.cell? ⟨E,3,none⟩=some (.slice (some ⟨b1x,0,none⟩) x.rule.verbs.length x.rule.verbs.length):=ao.at_ 3;have x4:km.cell? ⟨E,4,none⟩=some (.string x.rule.kind):=ao.at_ 4;have x5:km.cell? ⟨E,5,none⟩=some (.string x.rule.team):=ao.at_ 5;have x6:km.cell? ⟨E,6,none⟩=some (.string x.rule.pre):=ao.at_ 6;clear ao bB;go_wp2;go_ret;exact⟨Pl.ae (HF.out (by simp[he])).symm,aa aY.out HK.out⟩
        ·obtain⟨aR,bB,ao⟩:=iG.out km HK.out;obtain⟨yz,y0,y1,y2,y3,y4,y5,y6⟩:=aR;have ez:=ao.lt;have x0:km.cell? ⟨E,0,none⟩=some (.int .i64 x.number):=ao.at_ 0;have x1:km.cell? ⟨E,1,none⟩=some (.string x.too):=ao.at_ 1;have x2:km.cell? ⟨E,2,none⟩=some (.string x.by_):=ao.at_ 2;have x3:km.cell? ⟨E,3,none⟩=some (.slice (some ⟨b1x,0,none⟩) x.rule.verbs.length x.rule.verbs.length):=ao.at_ 3;have x4:km.cell? ⟨E,4,none⟩=some (.string x.rule.kind):=ao.at_ 4;have x5:km.cell? ⟨E,5,none⟩=some (.string x.rule.team):=ao.at_ 5;have x6:km.cell? ⟨E,6,none⟩=some (.string x.rule.pre):=ao.at_ 6;clear ao bB;go_wp2;go_roundw
         case rel=>exact⟨q+1,by omega,by go_num,HT.out (by simp[he]),aa je.out HK.out⟩
         case measure=>simp[intOf];omega
    ·have HE:Hid (R=true):=by
      show R=true;rw[l3.out];obtain rfl:q=K.grants.length:=by omega
      exact HQ.out
     go_wp2;go_ret;exact⟨Pl.ae HE.out.symm,fu.out⟩
 ·have HE:Hid (R=false):=by show R=false;rw[HR.out];simp[hlen]
  go_wp2;go_ret;exact⟨Pl.ae HE.out.symm,cN.out⟩
theorem zG (K:Bk) (e0 e1 e2 e3:Nat) (w:World):
  Calls Tryz.prog 37 #[.agg #[.int .i64 K.now,.int .i64 K.tick,.int .i64 K.given,.slice (some ⟨e0,0,none⟩) K.objects.length K.objects.length,.slice (some ⟨e1,0,none⟩) K.grants.length K.grants.length,.slice (some ⟨e2,0,none⟩) K.ledgers.length K.ledgers.length,.slice (some ⟨e3,0,none⟩) K.purses.length K.purses.length]] w fun e w'=>e=.returned (.bool (fW K))∧Bel w w':=by
 obtain⟨wa,dX⟩:∃ wa,wa=w.alloc (.cells #[.int .i64 K.now,.int .i64 K.tick,.int .i64 K.given,.slice (some ⟨e0,0,none⟩) K.objects.length K.objects.length,.slice (some ⟨e1,0,none⟩) K.grants.length K.grants.length,.slice (some ⟨e2,0,none⟩) K.ledgers.length K.ledgers.length,.slice (some ⟨e3,0,none⟩) K.purses.length K.purses.length] 47):=⟨_,rfl⟩
 have ea:Hid (Bel w wa):=by show Below _ _ _;rw[dX];exact ab br _
 have iC:Hid (bm wa w.heap.size (.int .i64 K.now) (.int .i64 K.tick) (.int .i64 K.given) (.slice (some ⟨e0,0,none⟩) K.objects.length K.objects.length) (.slice (some ⟨e1,0,none⟩) K.grants.length K.grants.length) (.slice (some ⟨e2,0,none⟩) K.ledgers.length K.ledgers.length) (.slice (some ⟨e3,0,none⟩) K.purses.length K.purses.length)):=by show bm _ _ _ _ _ _ _ _ _;rw[dX];exact bm.bV w _ _ _ _ _ _ _ _ _ rfl
 obtain⟨b1,h1⟩:∃ b,b=within K.now 0 1000000:=⟨_,rfl⟩
 obtain⟨b2,h2⟩:∃ b,b=within K.tick 0 1000000:=⟨_,rfl⟩
 obtain⟨b3,h3⟩:∃ b,b=within K.given 0 K.now:=⟨_,rfl⟩
 have H1:Hid (∀ W,Calls Tryz.prog 83 #[.int .i64 K.now,.int .i64 0,.int .i64 1000000] W fun e w'=>e=.returned (.bool b1)∧W=w'):=fun W=>by rw[h1];exact gZ _ _ _ W
 have H2:Hid (∀ W,Calls Tryz.prog 83 #[.int .i64 K.tick,.int .i64 0,.int .i64 1000000] W fun e w'=>e=.returned (.bool b2)∧W=w'):=fun W=>by rw[h2];exact gZ _ _ _ W
 have H3:Hid (∀ W,Calls Tryz.prog 83 #[.int .i64 K.given,.int .i64 0,.int .i64 K.now] W fun e w'=>e=.returned (.bool b3)∧W=w'):=fun W=>by rw[h3];exact gZ _ _ _ W
 have HT:Hid (fW K=(b1&&b2&&b3)):=by show fW K=_;unfold fW;rw[h1,h2,h3]
 rw[HT.out];clear h1 h2 h3 HT;go_enter Tryz.func37,Tryz.ntmps37
 go_upto_region 1 with fail
 rw[← dX];clear dX;obtain⟨yz,y0,y1,y2,y3,y4,y5,y6⟩:=iC.out;go_wp2_with fail
 refine(H1.out _).mono ?_;rintro e w7 ⟨rfl,rfl⟩;cases b1
 ·go_wp2;go_ret;exact⟨rfl,ea.out⟩
 ·go_wp2_with fail
  refine(H2.out _).mono ?_;rintro e w7 ⟨rfl,rfl⟩;cases b2
  ·go_wp2;go_ret;exact⟨rfl,ea.out⟩
  ·go_wp2_with fail
   refine(H3.out _).mono ?_;rintro e w7 ⟨rfl,rfl⟩;go_wp2;go_ret;exact⟨by simp,ea.out⟩
end Go.Proofs.YtbiokpmdghmgcaaGreat
