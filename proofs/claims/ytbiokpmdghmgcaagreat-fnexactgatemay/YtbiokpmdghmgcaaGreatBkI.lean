import Derived.Deep.Cut
import Derived.Deep.DeepCutAuto
import Derived.Test.YtbiokpmdghmgcaaGreatPlainBk
namespace Go.Proofs.YtbiokpmdghmgcaaGreat
set_option maxHeartbeats 40000000
open Go.RowKit Go.Deep
def fU (S:Nat) (v:Int):Bool:=decide (1≤v)&&decide (v≤5)&&S.testBit v.toNat
theorem Lk:∀ S:Fin 64,(bits BinOp.and IntKind.u8 ((S.val:Int) / 2) 1==1)=S.val.testBit 1:=by decide+kernel
theorem Lo:∀ S:Fin 64,(bits BinOp.and IntKind.u8 ((S.val:Int) / 4) 1==1)=S.val.testBit 2:=by decide+kernel
theorem LJ:∀ S:Fin 64,(bits BinOp.and IntKind.u8 ((S.val:Int) / 8) 1==1)=S.val.testBit 3:=by decide+kernel
theorem Ll:∀ S:Fin 64,(bits BinOp.and IntKind.u8 ((S.val:Int) / 16) 1==1)=S.val.testBit 4:=by decide+kernel
theorem Lm:∀ S:Fin 64,(bits BinOp.and IntKind.u8 ((S.val:Int) / 32) 1==1)=S.val.testBit 5:=by decide+kernel
theorem or1:∀ S:Fin 64,bits BinOp.or IntKind.u8 (S.val:Int) 2=((S.val|||2:Nat):Int):=by decide+kernel
theorem or2:∀ S:Fin 64,bits BinOp.or IntKind.u8 (S.val:Int) 4=((S.val|||4:Nat):Int):=by decide+kernel
theorem or3:∀ S:Fin 64,bits BinOp.or IntKind.u8 (S.val:Int) 8=((S.val|||8:Nat):Int):=by decide+kernel
theorem or4:∀ S:Fin 64,bits BinOp.or IntKind.u8 (S.val:Int) 16=((S.val|||16:Nat):Int):=by decide+kernel
theorem or5:∀ S:Fin 64,bits BinOp.or IntKind.u8 (S.val:Int) 32=((S.val|||32:Nat):Int):=by decide+kernel
theorem CO (S:Nat) (v:Int) (w:World) (hS:S<64):
  Calls Tryz.prog 111 #[.int .u8 (S:Nat),.int .i64 v] w fun e w'=>e=.returned (.bool (fU S v))∧w=w':=by
 by_cases h1:1≤v
 ·by_cases h5:v≤5
  ·have hv:v=1∨v=2∨v=3∨v=4∨v=5:=by omega
   rcases hv with rfl|rfl|rfl|rfl|rfl
   all_goals
    go_enter Tryz.func111,Tryz.ntmps111
    go_wp2;go_ret;refine⟨Pl.ae ?_,rfl⟩
    first|exact(Lk ⟨S,hS⟩).trans (by simp[fU])|exact(Lo ⟨S,hS⟩).trans (by simp[fU])|exact(LJ ⟨S,hS⟩).trans (by simp[fU])|exact(Ll ⟨S,hS⟩).trans (by simp[fU])|exact(Lm ⟨S,hS⟩).trans (by simp[fU])
  ·have HE:Hid (fU S v=false):=by show _=_;simp[fU,h5]
   go_enter Tryz.func111,Tryz.ntmps111
   go_wp2;go_ret;exact⟨Pl.ae HE.out.symm,rfl⟩
 ·have HE:Hid (fU S v=false):=by show _=_;simp[fU,h1]
  go_enter Tryz.func111,Tryz.ntmps111
  go_wp2;go_ret;exact⟨Pl.ae HE.out.symm,rfl⟩
theorem oU (s p:ByteArray) (w:World):
  Calls Tryz.prog 155 #[.string s,.string p] w fun e w'=>e=.returned (.bool (eS s p))∧w=w':=by
 by_cases h1:p.size≤s.size
 ·go_enter Tryz.func155,Tryz.ntmps155
  go_wp2;go_ret;exact⟨Pl.ae (by simp[eS,h1]),rfl⟩
 ·have HE:Hid (eS s p=false):=by show _=_;simp[eS,h1]
  go_enter Tryz.func155,Tryz.ntmps155
  go_wp2;go_ret;exact⟨Pl.ae HE.out.symm,rfl⟩
theorem Dm (s p:ByteArray) (w:World):
  Calls Tryz.prog 193 #[.string s,.string p] w fun e w'=>e=.returned (.bool (eS s p))∧w=w':=by
 by_cases h1:p.size≤s.size
 ·go_enter Tryz.func193,Tryz.ntmps193
  go_wp2;go_ret;exact⟨Pl.ae (by simp[eS,h1]),rfl⟩
 ·have HE:Hid (eS s p=false):=by show _=_;simp[eS,h1]
  go_enter Tryz.func193,Tryz.ntmps193
  go_wp2;go_ret;exact⟨Pl.ae HE.out.symm,rfl⟩
theorem qc (s p:ByteArray) (w:World):
  Calls Tryz.prog 158 #[.string s,.string p] w fun e w'=>e=.returned (.bool (eS s p))∧w=w':=by
 have HX:=hid fun (W:World)=>Dm s p W;obtain⟨R,hR⟩:∃ R,R=eS s p:=⟨_,rfl⟩
 rw[← hR]at HX ⊢;clear hR;go_enter Tryz.func158,Tryz.ntmps158
 go_wp2_with fail
 refine(HX.out _).mono ?_;rintro e w' ⟨rfl,rfl⟩;go_wp2;go_ret;exact⟨rfl,rfl⟩
theorem nD {a b:Int} {c d:Bool} (h:a=b) (g:c=d):Ending.returned (.tuple #[.int .u8 a,.bool c])=.returned (.tuple #[.int .u8 b,.bool d]):=by rw[h,g]
theorem jT (l:List Int) (k:Nat):gH l k=true↔1≤l.getD k 0∧l.getD k 0≤5∧(k=0∨l.getD (k - 1) 0<l.getD k 0):=by
 simp only[gH,Bool.and_eq_true,Bool.or_eq_true,decide_eq_true_eq,and_assoc]
def kj (l:List Int) (k:Nat):Int:=if k=0 then 0 else l.getD (k - 1) 0
theorem lu {l:List Int} {k:Nat} (h:dZ l k=true) (i:Nat) (hi:i<k):gH l i=true:=by
 unfold dZ at h;rw[List.all_eq_true]at h;exact h i (List.mem_range.2 hi)
theorem n5 {l:List Int} {k:Nat} (h:dZ l k=true):0≤kj l k∧(k≠0→1≤kj l k):=by
 unfold kj;by_cases h0:k=0
 ·simp[h0]
 ·rw[if_neg h0];have:=(jT l (k - 1)).1 (lu h (k - 1) (by omega));omega
theorem yx {l:List Int} {k:Nat} (h:dZ l k=true):gH l k=true↔kj l k<l.getD k 0∧l.getD k 0≤5:=by
 rw[jT];have hp:=n5 h;unfold kj at hp ⊢;by_cases h0:k=0
 ·simp[h0];omega
 ·rw[if_neg h0]at hp ⊢;have:=hp.2 h0;constructor
  ·rintro⟨a,b,c⟩;omega
  ·rintro⟨a,b⟩;exact⟨by omega,b,Or.inr a⟩
theorem CP (a b:Nat) (ha:a<64) (hb:b<64):a|||b<64:=Nat.or_lt_two_pow (n:=6) ha hb
theorem i4 {l:List Int}:∀ k,k≤l.length→dZ l k=true→la l k<64∧(k≠0→la l k≠0)
 |0,_,_=>⟨by simp[la],fun h=>absurd rfl h⟩
 |k+1,hk,h=>by
  have hb:dZ l k=true:=by unfold dZ at h ⊢;rw[Pl.ib]at h;simp only[Bool.and_eq_true]at h;exact h.1
  have ih:=i4 k (by omega) hb;have hv:=(jT l k).1 (lu h k (by omega));rw[oa l k (by omega)];have Cc:l.getD k 0=1∨l.getD k 0=2∨l.getD k 0=3∨l.getD k 0=4∨l.getD k 0=5:=by omega
  have hz:bit (l.getD k 0)<64∧bit (l.getD k 0)≠0:=by
   rcases Cc with e|e|e|e|e<;>rw[e]<;>decide
  refine⟨CP _ _ ih.1 hz.1,fun _ e=> ?_⟩;exact hz.2 (Nat.or_eq_zero_iff.1 e).2
def g8 (l:List Int):Nat:=if bO l=true then setOf l else 0
theorem sQ (l:List Int):g8 l<64:=by
 unfold g8;split
 ·rename_i h
  have h2:dZ l l.length=true:=by simp only[bO,Bool.and_eq_true]at h;exact h.2
  rw[← pV l l.length nr];exact(i4 l.length nr h2).1
 ·omega
theorem m7 (b:Nat) (l:List Int) (w:World) (h:cn w b l):
  Calls Tryz.prog 146 #[.slice (some ⟨b,0,none⟩) l.length l.length] w fun e w'=>e=.returned (.tuple #[.int .u8 (g8 l:Nat),.bool (bO l)])∧w=w':=by
 have hl:=h.len;have hc:=h.at_;clear h;obtain⟨T,hT⟩:∃ T,T=g8 l:=⟨_,rfl⟩
 obtain⟨R,hR⟩:∃ R,R=bO l:=⟨_,rfl⟩
 have HR:=hid (And.intro hT hR);rw[← hT,← hR];clear hT hR;go_enter Tryz.func146,Tryz.ntmps146
 go_wp2;go_loop [4,5,10] (fun s a i=>∃ (k S:Nat) (z:Int),k≤l.length∧i=.int .i64 k∧s=.int .u8 (S:Nat)∧a=.int .i64 z∧S=la l k∧z=kj l k∧dZ l k=true) (fun _ _ i=>l.length - (intOf i).toNat)
 case atStart=>exact⟨0,0,0,nz,rfl,rfl,rfl,rfl,rfl,rfl⟩
 case round=>
  obtain⟨k,S,z,hk,rfl,rfl,rfl,hS,hz,hv⟩:=hrel;have HQ:=hid (And.intro hS (And.intro hz hv));have By:S<64:=by rw[hS];exact(i4 k hk hv).1
  clear hS hz hv;by_cases av:k<l.length
  ·obtain⟨v,yU⟩:∃ v,v=l.getD k 0:=⟨_,rfl⟩
   have c0:=hc k av;rw[← yU]at c0;have hF:Hid (gH l k=true↔z<v∧v≤5):=by show _↔_;rw[yx HQ.out.2.2,← yU,← HQ.out.2.1]
   have HSU:Hid (la l (k+1)=S|||bit v):=by show _=_;rw[oa l k av,← yU,← HQ.out.1]
   have HLA:Hid (kj l (k+1)=v):=by show _=_;rw[kj,if_neg (by omega),yU];rfl
   have HZ:Hid (0≤z):=by show 0≤z;rw[HQ.out.2.1];exact(n5 HQ.out.2.2).1
   clear yU hc;have bad:¬ (z<v∧v≤5)→Hid (T=0∧R=false):=by
    intro hn;have hf:gH l k=false:=by rw[Bool.eq_false_iff];exact fun e=>hn (hF.out.1 e)
    have:=pM av hf;exact⟨by rw[HR.out.1,g8,this];rfl,by rw[HR.out.2,this]⟩
   by_cases h1:z<v
   ·by_cases h5:v≤5
    ·have HN:=hid (jS HQ.out.2.2 (hF.out.2 ⟨h1,h5⟩));clear bad;have mR:=HZ.out;have Cc:v=1∨v=2∨v=3∨v=4∨v=5:=by omega
     rcases Cc with rfl|rfl|rfl|rfl|rfl
     all_goals
      clear mR;go_wp2;go_round
      case rel=>exact⟨k+1,_,_,by omega,by go_num,(by first|exact congrArg (Value.int IntKind.u8) (or1 ⟨S,By⟩)|exact congrArg (Value.int IntKind.u8) (or2 ⟨S,By⟩)|exact congrArg (Value.int IntKind.u8) (or3 ⟨S,By⟩)|exact congrArg (Value.int IntKind.u8) (or4 ⟨S,By⟩)|exact congrArg (Value.int IntKind.u8) (or5 ⟨S,By⟩)),rfl,HSU.out.symm,HLA.out.symm,HN.out⟩
      case measure=>simp[intOf];omega
    ·have HE:=bad (by omega);clear bad;go_wp2;refine bodyPost_ret (v:=.tuple #[.int .u8 0,.bool false]) (by simp[results,Tryz.results146,go_sem]) rfl ⟨?_,rfl⟩;exact nD (by rw[HE.out.1];rfl) HE.out.2.symm
   ·have HE:=bad (by omega);clear bad;go_wp2;refine bodyPost_ret (v:=.tuple #[.int .u8 0,.bool false]) (by simp[results,Tryz.results146,go_sem]) rfl ⟨?_,rfl⟩;exact nD (by rw[HE.out.1];rfl) HE.out.2.symm
  ·obtain rfl:k=l.length:=by omega
   have HE:Hid (T=S∧R=decide (S≠0)):=by
    have q:=HQ.out;have s:=i4 l.length nr q.2.2;rw[← q.1]at s;by_cases h0:l.length=0
    ·have e:l=[]:=List.length_eq_zero_iff.1 h0;have:bO l=false:=by rw[e];rfl
     have K7:S=0:=by rw[q.1,h0];rfl
     exact⟨by rw[HR.out.1,g8,this,K7];rfl,by rw[HR.out.2,this,K7];rfl⟩
    ·have:bO l=true:=by
      rw[bO,q.2.2];have:l.isEmpty=false:=by cases l with
       |nil=>exact absurd rfl h0
       |cons a t=>rfl
      rw[this];rfl
     have K7:=s.2 h0;exact⟨by rw[HR.out.1,g8,this,q.1,pV l l.length nr];rfl,by rw[HR.out.2,this];simp[K7]⟩
   clear hc;by_cases h0:S=0
   ·subst h0;go_wp2;refine bodyPost_ret (v:=.tuple #[.int .u8 0,.bool false]) (by simp[results,Tryz.results146,go_sem]) rfl ⟨?_,rfl⟩;exact nD (by rw[HE.out.1];rfl) (by rw[HE.out.2];rfl)
   ·have hb:((S:Int) !=0)=true:=by simp;omega
    go_wp2;refine bodyPost_ret (v:=.tuple #[.int .u8 (S:Nat),.bool true]) (by simp[results,Tryz.results146,go_sem]) rfl ⟨?_,rfl⟩;exact nD (by rw[HE.out.1]) (by rw[HE.out.2];simp[h0])
theorem rf (l:List Int) (v:Int) (k:Nat) (h:k<l.length) (hq:dH (l.take k) v=false) (hn:¬ l.getD k 0=v):dH (l.take (k+1)) v=false:=by
 have e:l.getD k 0=l[k]:=by simp[h]
 rw[e]at hn;unfold dH at hq ⊢;rw[List.take_succ_eq_append_getElem h,List.any_append,hq];simp[hn]
theorem sG (l:List Int) (v:Int) (k:Nat) (h:k<l.length) (hn:l.getD k 0=v):dH l v=true:=by
 have e:l.getD k 0=l[k]:=by simp[h]
 rw[e]at hn;unfold dH;rw[List.any_eq_true];exact⟨l[k],List.getElem_mem h,by simp[hn]⟩
theorem sY (l:List Int) (v:Int) (k:Nat) (h:l.length≤k) (hq:dH (l.take k) v=false):dH l v=false:=by
 rw[List.take_of_length_le h]at hq;exact hq
theorem Fh (b:Nat) (r:Rul) (v:Int) (w:World) (h:cn w b r.verbs):
  Calls Tryz.prog 154 #[.agg #[.slice (some ⟨b,0,none⟩) r.verbs.length r.verbs.length,.string r.kind,.string r.team,.string r.pre],.int .i64 v] w fun e w'=>e=.returned (.bool (dH r.verbs v))∧Bel w w':=by
 have hl:=h.len;have hc:=h.at_;have hb:=h.lt;have HB:Hid (Bel w (w.alloc (.cells #[.slice (some ⟨b,0,none⟩) r.verbs.length r.verbs.length,.string r.kind,.string r.team,.string r.pre] 124))):=ab br _;clear h;obtain⟨R,hR⟩:∃ R,R=dH r.verbs v:=⟨_,rfl⟩
 have HR:=hid hR;rw[← hR];clear hR;go_enter Tryz.func154,Tryz.ntmps154
 go_wp2;go_loop [5] (fun i=>∃ k:Nat,k≤r.verbs.length∧i=.int .i64 k∧dH (r.verbs.take k) v=false) (fun i=>r.verbs.length - (intOf i).toNat)
 case atStart=>exact⟨0,nz,rfl,rfl⟩
 case round=>
  obtain⟨k,hk,rfl,hq⟩:=hrel;have HQ:=hid hq;clear hq;by_cases av:k<r.verbs.length
  ·obtain⟨y,hy⟩:∃ y,y=r.verbs.getD k 0:=⟨_,rfl⟩
   have c0:=hc k av;rw[← hy]at c0;have HY:=hid hy;clear hy hc;by_cases hq:y=v
   ·subst hq;have HE:Hid (R=true):=by show R=true;rw[HR.out];exact sG _ _ k av HY.out.symm
    go_wp2;go_ret;exact⟨Pl.ae HE.out.symm,HB.out⟩
   ·have HE:Hid (dH (r.verbs.take (k+1)) v=false):=rf _ _ k av HQ.out (by rw[← HY.out];exact hq);go_wp2;go_round
    case rel=>exact⟨k+1,by omega,by go_num,HE.out⟩
    case measure=>simp[intOf];omega
  ·have HE:Hid (R=false):=by show _=_;rw[HR.out];exact sY _ _ k (by omega) HQ.out
   clear hc;go_wp2;go_ret;exact⟨Pl.ae HE.out.symm,HB.out⟩
theorem kJ (n lo hi:Int) (w:World):
  Calls Tryz.prog 25 #[.int .i64 n,.int .i64 lo,.int .i64 hi] w fun e w'=>e=.returned (.bool (decide (lo≤n)&&decide (n≤hi)))∧w'=w:=(bc n lo hi w).mono fun _ _ h=>⟨h.1,h.2.symm⟩
theorem sK (b:Nat) (r:Rul) (w:World) (h:cn w b r.verbs) (hs:r.sized):
  Calls Tryz.prog 69 #[.agg #[.slice (some ⟨b,0,none⟩) r.verbs.length r.verbs.length,.string r.kind,.string r.team,.string r.pre]] w fun e w'=>e=.returned (.bool (eO r))∧Bel w w':=by
 have hl:=h.len;have HI:=hid h;have HZ:=hid (And.intro hs.1 hs.2.1);have Lf:r.pre.size≤maxLen:=hs.2.2;unfold maxLen at Lf;have HB:Hid (Bel w (w.alloc (.cells #[.slice (some ⟨b,0,none⟩) r.verbs.length r.verbs.length,.string r.kind,.string r.team,.string r.pre] 124))):=ab br _;clear h hs;by_cases h0:r.verbs.length=0
 ·have HE:Hid (eO r=false):=by
   show eO r=false;have:r.verbs=[]:=List.length_eq_zero_iff.1 h0;rw[eO,this];rfl
  have wX:((r.verbs.length:Int)==0)=true:=by rw[h0];rfl
  clear h0;go_enter Tryz.func69,Tryz.ntmps69
  go_wp2;go_ret;exact⟨Pl.ae HE.out.symm,HB.out⟩
 have wX:((r.verbs.length:Int)==0)=false:=beq_eq_false_iff_ne.2 (by omega);have HN0:Hid (r.verbs.isEmpty=false):=by
  show r.verbs.isEmpty=false;cases hv:r.verbs with
  |nil=>rw[hv]at h0;exact absurd rfl h0
  |cons a t=>rfl
 clear h0;by_cases lG:r.pre.size≤16
 case neg=>
  have HE:Hid (eO r=false):=by show _=_;simp[eO,lG]
  go_enter Tryz.func69,Tryz.ntmps69
  go_wp2;go_ret;exact⟨Pl.ae HE.out.symm,HB.out⟩
 have combo:(r.kind.toList.isEmpty=true∨(r.kind.toList.isEmpty=false∧Pl.aq r.kind=true))∨(r.kind.toList.isEmpty=false∧Pl.aq r.kind=false):=by
  cases r.kind.toList.isEmpty<;>cases Pl.aq r.kind<;>simp
 have BW:(r.team.toList.isEmpty=true∨(r.team.toList.isEmpty=false∧Pl.aq r.team=true))∨(r.team.toList.isEmpty=false∧Pl.aq r.team=false):=by
  cases r.team.toList.isEmpty<;>cases Pl.aq r.team<;>simp
 rcases combo with hk|⟨hk,lO⟩
 case inr=>
  have HE:Hid (eO r=false):=by show _=_;simp[eO,hk,lO]
  clear BW;go_enter Tryz.func69,Tryz.ntmps69
  go_wp2_with (go_at_call 68;refine(aG _ _ HZ.out.1).mono ?_;rintro e w' ⟨rfl,rfl⟩)
  go_ret;exact⟨Pl.ae HE.out.symm,HB.out⟩
 have pv:Hid ((r.kind.toList.isEmpty||Pl.aq r.kind)=true):=by
  show _=true;rcases hk with hk|⟨hk,lO⟩
  ·simp[hk]
  ·simp[hk,lO]
 rcases BW with ht|⟨ht,B2⟩
 case inr=>
  have HE:Hid (eO r=false):=by show _=_;simp[eO,ht,B2]
  rcases hk with hk|⟨hk,lO⟩
  all_goals
   go_enter Tryz.func69,Tryz.ntmps69
   go_wp2_with (go_at_call 68;refine(aG _ _ (by first|exact HZ.out.1|exact HZ.out.2)).mono ?_;rintro e w' ⟨rfl,rfl⟩)
   go_ret;exact⟨Pl.ae HE.out.symm,HB.out⟩
 have HTT:Hid ((r.team.toList.isEmpty||Pl.aq r.team)=true):=by
  show _=true;rcases ht with ht|⟨ht,B2⟩
  ·simp[ht]
  ·simp[ht,B2]
 obtain⟨R,hR⟩:∃ R,R=eO r:=⟨_,rfl⟩
 have HR:Hid (R=(dZ r.verbs r.verbs.length&&Pl.nameBytes r.pre)):=by
  show R=_;rw[hR,eO,pv.out,HTT.out,bO,HN0.out];simp[lG]
 have Ey:Hid (∀ k,k<r.verbs.length→gH r.verbs k=false→R=false):=by
  intro k hk hf;rw[HR.out,dZ,Pl.gl _ _ k hk hf];rfl
 rw[← hR];clear hR pv HTT;rcases hk with hk|⟨hk,lO⟩<;>rcases ht with ht|⟨ht,B2⟩
 all_goals
  go_enter Tryz.func69,Tryz.ntmps69
  go_wp2_with (go_at_call 68;refine(aG _ _ (by first|exact HZ.out.1|exact HZ.out.2)).mono ?_;rintro e w' ⟨rfl,rfl⟩)
  clear hk ht;try clear lO
  try clear B2
  clear wX;go_loopw [3] (fun i wr=>∃ k:Nat,k≤r.verbs.length∧i=.int .i64 k∧dZ r.verbs k=true∧Below (w.alloc (.cells #[.slice (some ⟨b,0,none⟩) r.verbs.length r.verbs.length,.string r.kind,.string r.team,.string r.pre] 124)).heap.size (w.alloc (.cells #[.slice (some ⟨b,0,none⟩) r.verbs.length r.verbs.length,.string r.kind,.string r.team,.string r.pre] 124)) wr) (fun i _=>r.verbs.length - (intOf i).toNat)
  case atStart=>exact⟨0,nz,rfl,rfl,br⟩
  case round=>
   obtain⟨k,hk,rfl,hq,hW⟩:=hrel;have HQ:=hid hq;have HW:=hid (aa HB.out hW);have k0:wr.cell? ⟨w.heap.size,0,none⟩=some (.slice (some ⟨b,0,none⟩) r.verbs.length r.verbs.length):=(hW.cell (p:=⟨w.heap.size,0,none⟩) (by simp)).trans (by simp);have k3:wr.cell? ⟨w.heap.size,3,none⟩=some (.string r.pre):=(hW.cell (p:=⟨w.heap.size,3,none⟩) (by simp)).trans (by simp);have rH:=hid hW;clear hq hW;by_cases av:k<r.verbs.length
   ·obtain⟨y,hy⟩:∃ y,y=r.verbs.getD k 0:=⟨_,rfl⟩
    have c0:=(HI.out.later HW.out).at_ k av;rw[← hy]at c0;have Hx:Hid (gH r.verbs k=(decide (1≤y)&&decide (y≤5)&&(decide (k=0)||decide (r.verbs.getD (k - 1) 0<y)))):=by show _=_;rw[gH,← hy]
    clear hy;cases bA:(decide (1≤y)&&decide (y≤5))
    ·have HE:=hid (Ey.out k av (by rw[Hx.out,bA];rfl));go_wp2_with fail
     go_quiet ((go_at_call 25;exact Calls.quiet_of_same (kJ _ _ _ _)))
     go_wp2;go_ret;exact⟨Pl.ae HE.out.symm,al HW.out _⟩
    ·by_cases h0:k=0
     ·subst h0;have HE:=hid (jS HQ.out (by rw[Hx.out,bA];rfl));go_wp2_with fail
      go_quiet ((go_at_call 25;exact Calls.quiet_of_same (kJ _ _ _ _)))
      go_wp2;go_roundw
      case rel=>exact⟨0+1,by omega,by go_num,HE.out,al rH.out _⟩
      case measure=>simp[intOf];omega
     ·obtain⟨m,rfl⟩:∃ m,k=m+1:=⟨k - 1,by omega⟩
      obtain⟨p,hp⟩:∃ p,p=r.verbs.getD m 0:=⟨_,rfl⟩
      have c1:=(HI.out.later HW.out).at_ m (by omega);rw[← hp]at c1;have nC:Hid (gH r.verbs (m+1)=decide (p<y)):=by show _=_;rw[Hx.out,bA,hp];simp
      have EP:decide ((m:Int)+1<(r.verbs.length:Int))=true:=by simp;omega
      clear hp h0;by_cases hpy:p<y
      ·have HE:=hid (jS HQ.out (by rw[nC.out];simp[hpy]));go_wp2_with fail
       go_quiet ((go_at_call 25;exact Calls.quiet_of_same (kJ _ _ _ _)))
       go_wp2;go_roundw
       case rel=>exact⟨m+1+1,by omega,by go_num,HE.out,al rH.out _⟩
       case measure=>simp[intOf];omega
      ·have HE:=hid (Ey.out (m+1) av (by rw[nC.out];simp[hpy]));go_wp2_with fail
       go_quiet ((go_at_call 25;exact Calls.quiet_of_same (kJ _ _ _ _)))
       go_wp2;go_ret;exact⟨Pl.ae HE.out.symm,al HW.out _⟩
   ·have fg:Hid (R=Pl.nameBytes r.pre):=by
     show R=_;obtain rfl:k=r.verbs.length:=by omega
     rw[HR.out,HQ.out];rfl
    go_wp2;go_loop [4] (fun i=>∃ j:Nat,j≤r.pre.size∧i=.int .i64 j∧(r.pre.data.toList.take j).all Pl.cK=true) (fun i=>r.pre.size - (intOf i).toNat)
    case atStart=>exact⟨0,nz,rfl,rfl⟩
    case round=>
     obtain⟨j,hj,rfl,aw⟩:=hrel;have HA:=hid aw;clear aw;by_cases pH:j<r.pre.size
     ·by_cases hn:Pl.cK r.pre[j]=true
      ·have HS:Hid ((r.pre.data.toList.take (j+1)).all Pl.cK=true):=by show _=true;rw[Pl.gR _ _ _ pH,HA.out,hn];rfl
       go_wp2_with (go_at_call 125;refine(jX _ _).mono ?_;rintro e w' ⟨rfl,rfl⟩)
       go_round
       case rel=>first|exact⟨j+1,by omega,by go_num,HS.out⟩|(refine⟨trivial, ?_⟩;(repeat apply Exists.intro);exact⟨⟨j+1,by omega,by go_num,HS.out⟩,rfl⟩)
       case measure=>simp[intOf];omega
      ·have zl:Pl.cK r.pre[j]=false:=by simpa using hn
       have HE:Hid (R=false):=by show _=_;rw[fg.out,Pl.nameBytes];exact Pl.all_false _ _ j pH zl
       go_wp2_with (go_at_call 125;refine(jX _ _).mono ?_;rintro e w' ⟨rfl,rfl⟩)
       go_ret;exact⟨Pl.ae HE.out.symm,HW.out⟩
     ·have HE:Hid (R=true):=by
       show R=true;have:=Pl.jy Pl.cK r.pre j (by omega);rw[fg.out,Pl.nameBytes,← this,HA.out]
      go_wp2;go_ret;exact⟨Pl.ae HE.out.symm,HW.out⟩
theorem qi (w:World) (cs ds:Array Value) (t u:TypeId):w.heap.size+1<((w.alloc (.cells cs t)).alloc (.cells ds u)).heap.size∧(∀ o,((w.alloc (.cells cs t)).alloc (.cells ds u)).cell? ⟨w.heap.size,o,none⟩=cs[o]?)∧(∀ o,((w.alloc (.cells cs t)).alloc (.cells ds u)).cell? ⟨w.heap.size+1,o,none⟩=ds[o]?):=by
 refine⟨by simp,fun o=>by simp,fun o=>by simp⟩
theorem carry {w w3:World} {a:Nat} {cs ds:Array Value} (h:a+1<w.heap.size∧(∀ o,w.cell? ⟨a,o,none⟩=cs[o]?)∧(∀ o,w.cell? ⟨a+1,o,none⟩=ds[o]?)) (hb:Bel w w3):
  a+1<w3.heap.size∧(∀ o,w3.cell? ⟨a,o,none⟩=cs[o]?)∧(∀ o,w3.cell? ⟨a+1,o,none⟩=ds[o]?):=
 ⟨lo h.1 hb.size,fun o=>(hb.cell (p:=⟨a,o,none⟩) (by have:=h.1;show a<w.heap.size;omega)).trans (h.2.1 o),fun o=>(hb.cell (p:=⟨a+1,o,none⟩) h.1).trans (h.2.2 o)⟩
theorem AF (B b:Nat) (ts:List Tm) (r:Rul) (d:g7) (w:World) (hT:eB w B ts) (h:cn w b r.verbs):
  Calls Tryz.prog 106 #[.slice (some ⟨B,0,none⟩) ts.length ts.length,.agg #[.slice (some ⟨b,0,none⟩) r.verbs.length r.verbs.length,.string r.kind,.string r.team,.string r.pre],.agg #[.int .i64 d.verb,.string d.kind,.string d.team,.string d.name]] w fun e w'=>e=.returned (.bool (dH r.verbs d.verb&&given ts r d.kind d.team d.name))∧Bel w w':=by
 have cC:Bel w ((w.alloc (.cells #[.slice (some ⟨b,0,none⟩) r.verbs.length r.verbs.length,.string r.kind,.string r.team,.string r.pre] 124)).alloc (.cells #[.int .i64 d.verb,.string d.kind,.string d.team,.string d.name] 56)):=ab (ab br _) _;obtain⟨w2,gQ⟩:∃ w2,w2=((w.alloc (.cells #[.slice (some ⟨b,0,none⟩) r.verbs.length r.verbs.length,.string r.kind,.string r.team,.string r.pre] 124)).alloc (.cells #[.int .i64 d.verb,.string d.kind,.string d.team,.string d.name] 56)):=⟨_,rfl⟩
 have iH:Hid (Bel w w2):=by rw[gQ];exact cC
 have HC:Hid (w.heap.size+1<w2.heap.size∧(∀ o,w2.cell? ⟨w.heap.size,o,none⟩=(#[Value.slice (some ⟨b,0,none⟩) r.verbs.length r.verbs.length,.string r.kind,.string r.team,.string r.pre])[o]?)∧(∀ o,w2.cell? ⟨w.heap.size+1,o,none⟩=(#[Value.int .i64 d.verb,.string d.kind,.string d.team,.string d.name])[o]?)):=by rw[gQ];exact qi w _ _ 124 56
 have HX:=hid (Fh b r d.verb w2 (h.later iH.out));have nI:=hid (hT.later iH.out);obtain⟨R,hR⟩:∃ R,R=(dH r.verbs d.verb&&given ts r d.kind d.team d.name):=⟨_,rfl⟩
 have HR:Hid (R=(dH r.verbs d.verb&&((r.kind.toList.isEmpty||(r.kind.toList==d.kind.toList))&&(r.team.toList.isEmpty||under ts d.team r.team)&&eS d.name r.pre))):=hR;rw[← hR];clear h cC hT hR;go_enter Tryz.func106,Tryz.ntmps106
 go_wp2_with fail
 rw[← gQ];clear gQ;refine HX.out.mono ?_;rintro e w3 ⟨rfl,aO⟩;have F5:=hid (carry HC.out aO);have c:=F5.out.2.1;have d_:=F5.out.2.2;have c1:w3.cell? ⟨w.heap.size,1,none⟩=some (.string r.kind):=c 1;have c2:w3.cell? ⟨w.heap.size,2,none⟩=some (.string r.team):=c 2;have c3:w3.cell? ⟨w.heap.size,3,none⟩=some (.string r.pre):=c 3;have e1:w3.cell? ⟨w.heap.size+1,1,none⟩=some (.string d.kind):=d_ 1;have e2:w3.cell? ⟨w.heap.size+1,2,none⟩=some (.string d.team):=d_ 2;have e3:w3.cell? ⟨w.heap.size+1,3,none⟩=some (.string d.name):=d_ 3;have fO:=hid (aa iH.out aO);have yV:=hid (nI.out.later aO);clear aO HC HX iH nI c d_ F5;cases hv:dH r.verbs d.verb
 ·have HE:Hid (R=false):=by show _=_;rw[HR.out,hv];rfl
  go_wp2;go_ret;exact⟨Pl.ae HE.out.symm,fO.out⟩
 ·have kinds:(r.kind.toList.isEmpty=true∨(r.kind.toList.isEmpty=false∧(r.kind.toList==d.kind.toList)=true))∨(r.kind.toList.isEmpty=false∧(r.kind.toList==d.kind.toList)=false):=by
   cases r.kind.toList.isEmpty<;>cases (r.kind.toList==d.kind.toList)<;>simp
  rcases kinds with hk|⟨hk,lO⟩
  case inr=>
   have HE:Hid (R=false):=by show _=_;rw[HR.out,hk,lO];simp
   go_wp2;go_ret;exact⟨Pl.ae HE.out.symm,fO.out⟩
  have fg:Hid (R=((r.team.toList.isEmpty||under ts d.team r.team)&&eS d.name r.pre)):=by
   show R=_;rcases hk with hk|⟨hk,lO⟩
   ·rw[HR.out,hv,hk];rfl
   ·rw[HR.out,hv,hk,lO];rfl
  clear HR;rcases hk with hk|⟨hk,lO⟩
  all_goals
   cases ht:r.team.toList.isEmpty
   ·cases hu:under ts d.team r.team
    ·have HE:Hid (R=false):=by show _=_;rw[fg.out,ht,hu];rfl
     go_wp2_with (first|(go_at_call 126;refine(uC B ts _ _ _ yV.out).mono ?_;rintro e w' ⟨rfl,rfl⟩)|(go_at_call 155;refine(oU _ _ _).mono ?_;rintro e w' ⟨rfl,rfl⟩))
     go_ret;exact⟨Pl.ae HE.out.symm,fO.out⟩
    ·have HE:Hid (R=eS d.name r.pre):=by show R=_;rw[fg.out,ht,hu];rfl
     go_wp2_with (first|(go_at_call 126;refine(uC B ts _ _ _ yV.out).mono ?_;rintro e w' ⟨rfl,rfl⟩)|(go_at_call 155;refine(oU _ _ _).mono ?_;rintro e w' ⟨rfl,rfl⟩))
     go_ret;exact⟨Pl.ae HE.out.symm,fO.out⟩
   ·have HE:Hid (R=eS d.name r.pre):=by show R=_;rw[fg.out,ht];rfl
    go_wp2_with (go_at_call 155;refine(oU _ _ _).mono ?_;rintro e w' ⟨rfl,rfl⟩)
    go_ret;exact⟨Pl.ae HE.out.symm,fO.out⟩
theorem uK (b:Nat) (r:Rul) (w:World) (h:cn w b r.verbs) (hs:r.sized):
  Calls Tryz.prog 90 #[.agg #[.slice (some ⟨b,0,none⟩) r.verbs.length r.verbs.length,.string r.kind,.string r.team,.string r.pre]] w fun e w'=>e=.returned (.bool (eO r))∧Bel w w':=by
 have HZ:Hid (r.kind.size≤maxLen∧r.team.size≤maxLen∧r.pre.size≤maxLen):=hs;have HB:Hid (Bel w (w.alloc (.cells #[.slice (some ⟨b,0,none⟩) r.verbs.length r.verbs.length,.string r.kind,.string r.team,.string r.pre] 124))):=ab br _;have HX:Hid (Calls Tryz.prog 146 #[.slice (some ⟨b,0,none⟩) r.verbs.length r.verbs.length] (w.alloc (.cells #[.slice (some ⟨b,0,none⟩) r.verbs.length r.verbs.length,.string r.kind,.string r.team,.string r.pre] 124)) fun e w'=>e=.returned (.tuple #[.int .u8 (g8 r.verbs:Nat),.bool (bO r.verbs)])∧(w.alloc (.cells #[.slice (some ⟨b,0,none⟩) r.verbs.length r.verbs.length,.string r.kind,.string r.team,.string r.pre] 124))=w'):=
  m7 b r.verbs _ (h.later HB.out)
 have Lf:r.pre.size≤maxLen:=hs.2.2;unfold maxLen at Lf;obtain⟨R,hR⟩:∃ R,R=eO r:=⟨_,rfl⟩
 have HR:Hid (R=(bO r.verbs&&(r.kind.toList.isEmpty||Pl.aq r.kind)&&(r.team.toList.isEmpty||Pl.aq r.team)&&(decide (r.pre.size≤16)&&Pl.nameBytes r.pre))):=hR;rw[← hR];clear h hs hR;have d16:(decide ((r.pre.size:Int)≤16)=true∧decide (r.pre.size≤16)=true)∨(decide ((r.pre.size:Int)≤16)=false∧decide (r.pre.size≤16)=false):=by
  by_cases h:r.pre.size≤16
  ·exact Or.inl ⟨by simp;omega,by simp[h]⟩
  ·exact Or.inr ⟨by simp;omega,by simp[h]⟩
 obtain⟨G,hG⟩:∃ G,G=decide (r.pre.size≤16):=⟨_,rfl⟩
 rw[← hG]at HR d16;clear hG Lf;go_enter Tryz.func90,Tryz.ntmps90
 go_wp2_with fail
 refine HX.out.mono ?_;rintro e w2 ⟨rfl,rfl⟩;clear HX;cases hk:r.kind.toList.isEmpty
 ·cases ht:r.team.toList.isEmpty
  ·cases hv:bO r.verbs
   ·have HE:Hid (R=false):=by show _=_;rw[HR.out];simp[hv]
    clear HR;go_wp2_with (first|(go_at_call 89;refine(aJ _ _ (by first|exact HZ.out.1|exact HZ.out.2.1)).mono ?_;rintro e w' ⟨rfl,rfl⟩)|(go_at_call 145;refine(aW _ _ HZ.out.2.2).mono ?_;rintro e w' ⟨rfl,rfl⟩))
    go_ret;exact⟨Pl.ae HE.out.symm,HB.out⟩
   ·cases lO:Pl.aq r.kind
    ·have HE:Hid (R=false):=by show _=_;rw[HR.out];simp[hk,lO]
     clear HR;go_wp2_with (first|(go_at_call 89;refine(aJ _ _ (by first|exact HZ.out.1|exact HZ.out.2.1)).mono ?_;rintro e w' ⟨rfl,rfl⟩)|(go_at_call 145;refine(aW _ _ HZ.out.2.2).mono ?_;rintro e w' ⟨rfl,rfl⟩))
     go_ret;exact⟨Pl.ae HE.out.symm,HB.out⟩
    ·cases B2:Pl.aq r.team
     ·have HE:Hid (R=false):=by show _=_;rw[HR.out];simp[ht,B2]
      clear HR;go_wp2_with (first|(go_at_call 89;refine(aJ _ _ (by first|exact HZ.out.1|exact HZ.out.2.1)).mono ?_;rintro e w' ⟨rfl,rfl⟩)|(go_at_call 145;refine(aW _ _ HZ.out.2.2).mono ?_;rintro e w' ⟨rfl,rfl⟩))
      go_ret;exact⟨Pl.ae HE.out.symm,HB.out⟩
     ·rcases d16 with⟨lG,rfl⟩|⟨lG,rfl⟩
      ·have HE:Hid (R=Pl.nameBytes r.pre):=by show _=_;rw[HR.out];simp[hv,lO,B2]
       clear HR;go_wp2_with (first|(go_at_call 89;refine(aJ _ _ (by first|exact HZ.out.1|exact HZ.out.2.1)).mono ?_;rintro e w' ⟨rfl,rfl⟩)|(go_at_call 145;refine(aW _ _ HZ.out.2.2).mono ?_;rintro e w' ⟨rfl,rfl⟩))
       go_ret;exact⟨Pl.ae HE.out.symm,HB.out⟩
      ·have HE:Hid (R=false):=by show _=_;rw[HR.out];simp[Bool.and_false]
       clear HR;go_wp2_with (first|(go_at_call 89;refine(aJ _ _ (by first|exact HZ.out.1|exact HZ.out.2.1)).mono ?_;rintro e w' ⟨rfl,rfl⟩)|(go_at_call 145;refine(aW _ _ HZ.out.2.2).mono ?_;rintro e w' ⟨rfl,rfl⟩))
       go_ret;exact⟨Pl.ae HE.out.symm,HB.out⟩
  ·cases hv:bO r.verbs
   ·have HE:Hid (R=false):=by show _=_;rw[HR.out];simp[hv]
    clear HR;go_wp2_with (first|(go_at_call 89;refine(aJ _ _ (by first|exact HZ.out.1|exact HZ.out.2.1)).mono ?_;rintro e w' ⟨rfl,rfl⟩)|(go_at_call 145;refine(aW _ _ HZ.out.2.2).mono ?_;rintro e w' ⟨rfl,rfl⟩))
    go_ret;exact⟨Pl.ae HE.out.symm,HB.out⟩
   ·cases lO:Pl.aq r.kind
    ·have HE:Hid (R=false):=by show _=_;rw[HR.out];simp[hk,lO]
     clear HR;go_wp2_with (first|(go_at_call 89;refine(aJ _ _ (by first|exact HZ.out.1|exact HZ.out.2.1)).mono ?_;rintro e w' ⟨rfl,rfl⟩)|(go_at_call 145;refine(aW _ _ HZ.out.2.2).mono ?_;rintro e w' ⟨rfl,rfl⟩))
     go_ret;exact⟨Pl.ae HE.out.symm,HB.out⟩
    ·rcases d16 with⟨lG,rfl⟩|⟨lG,rfl⟩
     ·have HE:Hid (R=Pl.nameBytes r.pre):=by show _=_;rw[HR.out];simp[hv,ht,lO]
      clear HR;go_wp2_with (first|(go_at_call 89;refine(aJ _ _ (by first|exact HZ.out.1|exact HZ.out.2.1)).mono ?_;rintro e w' ⟨rfl,rfl⟩)|(go_at_call 145;refine(aW _ _ HZ.out.2.2).mono ?_;rintro e w' ⟨rfl,rfl⟩))
      go_ret;exact⟨Pl.ae HE.out.symm,HB.out⟩
     ·have HE:Hid (R=false):=by show _=_;rw[HR.out];simp[Bool.and_false]
      clear HR;go_wp2_with (first|(go_at_call 89;refine(aJ _ _ (by first|exact HZ.out.1|exact HZ.out.2.1)).mono ?_;rintro e w' ⟨rfl,rfl⟩)|(go_at_call 145;refine(aW _ _ HZ.out.2.2).mono ?_;rintro e w' ⟨rfl,rfl⟩))
      go_ret;exact⟨Pl.ae HE.out.symm,HB.out⟩
 ·cases ht:r.team.toList.isEmpty
  ·cases hv:bO r.verbs
   ·have HE:Hid (R=false):=by show _=_;rw[HR.out];simp[hv]
    clear HR;go_wp2_with (first|(go_at_call 89;refine(aJ _ _ (by first|exact HZ.out.1|exact HZ.out.2.1)).mono ?_;rintro e w' ⟨rfl,rfl⟩)|(go_at_call 145;refine(aW _ _ HZ.out.2.2).mono ?_;rintro e w' ⟨rfl,rfl⟩))
    go_ret;exact⟨Pl.ae HE.out.symm,HB.out⟩
   ·cases B2:Pl.aq r.team
    ·have HE:Hid (R=false):=by show _=_;rw[HR.out];simp[ht,B2]
     clear HR;go_wp2_with (first|(go_at_call 89;refine(aJ _ _ (by first|exact HZ.out.1|exact HZ.out.2.1)).mono ?_;rintro e w' ⟨rfl,rfl⟩)|(go_at_call 145;refine(aW _ _ HZ.out.2.2).mono ?_;rintro e w' ⟨rfl,rfl⟩))
     go_ret;exact⟨Pl.ae HE.out.symm,HB.out⟩
    ·rcases d16 with⟨lG,rfl⟩|⟨lG,rfl⟩
     ·have HE:Hid (R=Pl.nameBytes r.pre):=by show _=_;rw[HR.out];simp[hv,hk,B2]
      clear HR;go_wp2_with (first|(go_at_call 89;refine(aJ _ _ (by first|exact HZ.out.1|exact HZ.out.2.1)).mono ?_;rintro e w' ⟨rfl,rfl⟩)|(go_at_call 145;refine(aW _ _ HZ.out.2.2).mono ?_;rintro e w' ⟨rfl,rfl⟩))
      go_ret;exact⟨Pl.ae HE.out.symm,HB.out⟩
     ·have HE:Hid (R=false):=by show _=_;rw[HR.out];simp[Bool.and_false]
      clear HR;go_wp2_with (first|(go_at_call 89;refine(aJ _ _ (by first|exact HZ.out.1|exact HZ.out.2.1)).mono ?_;rintro e w' ⟨rfl,rfl⟩)|(go_at_call 145;refine(aW _ _ HZ.out.2.2).mono ?_;rintro e w' ⟨rfl,rfl⟩))
      go_ret;exact⟨Pl.ae HE.out.symm,HB.out⟩
  ·cases hv:bO r.verbs
   ·have HE:Hid (R=false):=by show _=_;rw[HR.out];simp[hv]
    clear HR;go_wp2_with (first|(go_at_call 89;refine(aJ _ _ (by first|exact HZ.out.1|exact HZ.out.2.1)).mono ?_;rintro e w' ⟨rfl,rfl⟩)|(go_at_call 145;refine(aW _ _ HZ.out.2.2).mono ?_;rintro e w' ⟨rfl,rfl⟩))
    go_ret;exact⟨Pl.ae HE.out.symm,HB.out⟩
   ·rcases d16 with⟨lG,rfl⟩|⟨lG,rfl⟩
    ·have HE:Hid (R=Pl.nameBytes r.pre):=by show _=_;rw[HR.out];simp[hv,hk,ht]
     clear HR;go_wp2_with (first|(go_at_call 89;refine(aJ _ _ (by first|exact HZ.out.1|exact HZ.out.2.1)).mono ?_;rintro e w' ⟨rfl,rfl⟩)|(go_at_call 145;refine(aW _ _ HZ.out.2.2).mono ?_;rintro e w' ⟨rfl,rfl⟩))
     go_ret;exact⟨Pl.ae HE.out.symm,HB.out⟩
    ·have HE:Hid (R=false):=by show _=_;rw[HR.out];simp[Bool.and_false]
     clear HR;go_wp2_with (first|(go_at_call 89;refine(aJ _ _ (by first|exact HZ.out.1|exact HZ.out.2.1)).mono ?_;rintro e w' ⟨rfl,rfl⟩)|(go_at_call 145;refine(aW _ _ HZ.out.2.2).mono ?_;rintro e w' ⟨rfl,rfl⟩))
     go_ret;exact⟨Pl.ae HE.out.symm,HB.out⟩
theorem DC (B b:Nat) (ts:List Tm) (r:Rul) (w:World) (h:cn w b r.verbs):
  Calls Tryz.prog 109 #[.slice (some ⟨B,0,none⟩) ts.length ts.length,.agg #[.slice (some ⟨b,0,none⟩) r.verbs.length r.verbs.length,.string r.kind,.string r.team,.string r.pre]] w fun e w'=>e=.returned (.agg #[.slice (some ⟨B,0,none⟩) ts.length ts.length,.slice (some ⟨b,0,none⟩) r.verbs.length r.verbs.length,.string r.kind,.string r.team,.string r.pre,.int .u8 (g8 r.verbs:Nat)])∧Bel w w':=by
 have HX:Hid (∀ W,Bel w W→Calls Tryz.prog 146 #[.slice (some ⟨b,0,none⟩) r.verbs.length r.verbs.length] W fun e w'=>e=.returned (.tuple #[.int .u8 (g8 r.verbs:Nat),.bool (bO r.verbs)])∧W=w'):=
  fun W hW=>m7 b r.verbs _ (h.later hW)
 clear h;go_enter Tryz.func109,Tryz.ntmps109
 go_wp2_with fail
 refine(HX.out _ ?_).mono ?_
 ·repeat(first|exact br|refine ab ?_ _)
 rintro e w2 ⟨rfl,rfl⟩;clear HX;go_wp2;refine bodyPost_ret (v:=.agg #[.slice (some ⟨B,0,none⟩) ts.length ts.length,.slice (some ⟨b,0,none⟩) r.verbs.length r.verbs.length,.string r.kind,.string r.team,.string r.pre,.int .u8 (g8 r.verbs:Nat)]) (by simp[results,Tryz.results109,go_sem]) rfl ⟨rfl, ?_⟩;repeat(first|exact br|refine ab ?_ _|refine Below.setCell ?_ (by simp) _)
theorem yu (B b S:Nat) (ts:List Tm) (r:Rul) (d:g7) (w:World) (hT:eB w B ts):
  Calls Tryz.prog 110 #[.agg #[.slice (some ⟨B,0,none⟩) ts.length ts.length,.slice (some ⟨b,0,none⟩) r.verbs.length r.verbs.length,.string r.kind,.string r.team,.string r.pre,.int .u8 (S:Nat)],.agg #[.int .i64 d.verb,.string d.kind,.string d.team,.string d.name]] w fun e w'=>e=.returned (.int .u8 (if given ts r d.kind d.team d.name=true then (S:Int) else 0))∧Bel w w':=by
 have cC:Bel w ((w.alloc (.cells #[.slice (some ⟨B,0,none⟩) ts.length ts.length,.slice (some ⟨b,0,none⟩) r.verbs.length r.verbs.length,.string r.kind,.string r.team,.string r.pre,.int .u8 (S:Nat)] 171)).alloc (.cells #[.int .i64 d.verb,.string d.kind,.string d.team,.string d.name] 56)):=ab (ab br _) _;obtain⟨w2,gQ⟩:∃ w2,w2=((w.alloc (.cells #[.slice (some ⟨B,0,none⟩) ts.length ts.length,.slice (some ⟨b,0,none⟩) r.verbs.length r.verbs.length,.string r.kind,.string r.team,.string r.pre,.int .u8 (S:Nat)] 171)).alloc (.cells #[.int .i64 d.verb,.string d.kind,.string d.team,.string d.name] 56)):=⟨_,rfl⟩
 have iH:Hid (Bel w w2):=by rw[gQ];exact cC
 have HC:Hid (w.heap.size+1<w2.heap.size∧(∀ o,w2.cell? ⟨w.heap.size,o,none⟩=(#[Value.slice (some ⟨B,0,none⟩) ts.length ts.length,.slice (some ⟨b,0,none⟩) r.verbs.length r.verbs.length,.string r.kind,.string r.team,.string r.pre,.int .u8 (S:Nat)])[o]?)∧(∀ o,w2.cell? ⟨w.heap.size+1,o,none⟩=(#[Value.int .i64 d.verb,.string d.kind,.string d.team,.string d.name])[o]?)):=by rw[gQ];exact qi w _ _ 171 56
 have nI:=hid (hT.later iH.out);obtain⟨R,hR⟩:∃ R:Int,R=(if given ts r d.kind d.team d.name=true then (S:Int) else 0):=⟨_,rfl⟩
 have HR:Hid (R=(if ((r.kind.toList.isEmpty||(r.kind.toList==d.kind.toList))&&(r.team.toList.isEmpty||under ts d.team r.team)&&eS d.name r.pre)=true then (S:Int) else 0)):=hR;rw[← hR];have c:=HC.out.2.1;have d_:=HC.out.2.2;have c0:w2.cell? ⟨w.heap.size,0,none⟩=some (.slice (some ⟨B,0,none⟩) ts.length ts.length):=c 0;have c2:w2.cell? ⟨w.heap.size,2,none⟩=some (.string r.kind):=c 2;have c3:w2.cell? ⟨w.heap.size,3,none⟩=some (.string r.team):=c 3;have c4:w2.cell? ⟨w.heap.size,4,none⟩=some (.string r.pre):=c 4;have c5:w2.cell? ⟨w.heap.size,5,none⟩=some (.int .u8 (S:Nat)):=c 5;have e1:w2.cell? ⟨w.heap.size+1,1,none⟩=some (.string d.kind):=d_ 1;have e2:w2.cell? ⟨w.heap.size+1,2,none⟩=some (.string d.team):=d_ 2;have e3:w2.cell? ⟨w.heap.size+1,3,none⟩=some (.string d.name):=d_ 3;clear cC hT hR c d_;obtain⟨K,hK⟩:∃ K:Bool,K=(r.kind.toList.isEmpty||(r.kind.toList==d.kind.toList)):=⟨_,rfl⟩
 have kinds:(r.kind.toList.isEmpty=true∧K=true)∨(r.kind.toList.isEmpty=false∧(r.kind.toList==d.kind.toList)=true∧K=true)∨(r.kind.toList.isEmpty=false∧(r.kind.toList==d.kind.toList)=false∧K=false):=by
  rw[hK];cases r.kind.toList.isEmpty<;>cases (r.kind.toList==d.kind.toList)<;>simp
 rw[← hK]at HR;clear hK;go_enter Tryz.func110,Tryz.ntmps110
 go_upto_region 1 with fail
 rw[← gQ];clear gQ;cases ht:r.team.toList.isEmpty
 ·rcases kinds with⟨hk,rfl⟩|⟨hk,lO,rfl⟩|⟨hk,lO,rfl⟩
  all_goals
   go_wp2_with fail
   refine(Ah B ts _ _ _ nI.out).mono ?_;rintro e w3 ⟨rfl,aO⟩;have F5:=hid (carry HC.out aO);have fO:=hid (aa iH.out aO);clear c0 c2 c3 c4 c5 e1 e2 e3;have c:=F5.out.2.1;have d_:=F5.out.2.2;have c4:w3.cell? ⟨w.heap.size,4,none⟩=some (.string r.pre):=c 4;have c5:w3.cell? ⟨w.heap.size,5,none⟩=some (.int .u8 (S:Nat)):=c 5;have e3:w3.cell? ⟨w.heap.size+1,3,none⟩=some (.string d.name):=d_ 3;clear aO HC nI iH c d_ F5;cases hu:under ts d.team r.team<;>cases hb:eS d.name r.pre
   all_goals
    have HE:=HR.out;rw[ht,hu,hb]at HE;simp at HE;have B7:=hid HE;clear HE;go_wp2_with (go_at_call 158;refine(qc _ _ _).mono ?_;rintro e w' ⟨rfl,rfl⟩)
    go_ret;exact⟨Pl.aP B7.out.symm,fO.out⟩
 ·rcases kinds with⟨hk,rfl⟩|⟨hk,lO,rfl⟩|⟨hk,lO,rfl⟩
  all_goals
   cases hb:eS d.name r.pre
   all_goals
    have HE:=HR.out;rw[ht,hb]at HE;simp at HE;have B7:=hid HE;clear HE;go_wp2_with (go_at_call 158;refine(qc _ _ _).mono ?_;rintro e w' ⟨rfl,rfl⟩)
    go_ret;exact⟨Pl.aP B7.out.symm,iH.out⟩
end Go.Proofs.YtbiokpmdghmgcaaGreat
namespace Go.Proofs.YtbiokpmdghmgcaaGreat
set_option maxRecDepth 8000
set_option maxHeartbeats 40000000
open Go.RowKit Go.Deep
theorem um (L:Lw) (K:Bk) (a0 a1 a2 e0 e1 e2 e3:Nat) (w:World) (hL:fT w a0 a1 a2 L) (hK:fG w e0 e1 e2 e3 K):
  Calls Tryz.prog 40 #[.agg #[.slice (some ⟨a0,0,none⟩) L.shapes.length L.shapes.length,.slice (some ⟨a1,0,none⟩) L.mends.length L.mends.length,.slice (some ⟨a2,0,none⟩) L.teams.length L.teams.length],.agg #[.int .i64 K.now,.int .i64 K.tick,.int .i64 K.given,.slice (some ⟨e0,0,none⟩) K.objects.length K.objects.length,.slice (some ⟨e1,0,none⟩) K.grants.length K.grants.length,.slice (some ⟨e2,0,none⟩) K.ledgers.length K.ledgers.length,.slice (some ⟨e3,0,none⟩) K.purses.length K.purses.length]] w fun e w'=>e=.returned (.bool (dM L K))∧Bel w w':=by
 have HA:=hid (And.intro hL hK);have hl:=hK.l.len;obtain⟨R,hR⟩:∃ R,R=dM L K:=⟨_,rfl⟩
 have HR:Hid (R=(decide (K.ledgers.length≤10)&&gA K.ledgers&&aC (cN L K) K.ledgers.length)):=hR;rw[← hR];clear hK hL hR;obtain⟨w1,eb⟩:∃ w1,w1=(w.alloc (.cells #[.slice (some ⟨a0,0,none⟩) L.shapes.length L.shapes.length,.slice (some ⟨a1,0,none⟩) L.mends.length L.mends.length,.slice (some ⟨a2,0,none⟩) L.teams.length L.teams.length] 40)).alloc (.cells #[.int .i64 K.now,.int .i64 K.tick,.int .i64 K.given,.slice (some ⟨e0,0,none⟩) K.objects.length K.objects.length,.slice (some ⟨e1,0,none⟩) K.grants.length K.grants.length,.slice (some ⟨e2,0,none⟩) K.ledgers.length K.ledgers.length,.slice (some ⟨e3,0,none⟩) K.purses.length K.purses.length] 47):=⟨_,rfl⟩
 have cQ:Hid (Bel w w1):=by show Below _ _ _;rw[eb];exact ab (ab br _) _
 have dE:Hid (∀ W,Bel w1 W→bd W (w.heap.size+1) (.int .i64 K.now) (.int .i64 K.tick) (.int .i64 K.given) (.slice (some ⟨e0,0,none⟩) K.objects.length K.objects.length) (.slice (some ⟨e1,0,none⟩) K.grants.length K.grants.length) (.slice (some ⟨e2,0,none⟩) K.ledgers.length K.ledgers.length) (.slice (some ⟨e3,0,none⟩) K.purses.length K.purses.length)∧bC W w.heap.size (.slice (some ⟨a0,0,none⟩) L.shapes.length L.shapes.length) (.slice (some ⟨a1,0,none⟩) L.mends.length L.mends.length) (.slice (some ⟨a2,0,none⟩) L.teams.length L.teams.length)):=by
  have q:bd w1 (w.heap.size+1) (.int .i64 K.now) (.int .i64 K.tick) (.int .i64 K.given) (.slice (some ⟨e0,0,none⟩) K.objects.length K.objects.length) (.slice (some ⟨e1,0,none⟩) K.grants.length K.grants.length) (.slice (some ⟨e2,0,none⟩) K.ledgers.length K.ledgers.length) (.slice (some ⟨e3,0,none⟩) K.purses.length K.purses.length)∧bC w1 w.heap.size (.slice (some ⟨a0,0,none⟩) L.shapes.length L.shapes.length) (.slice (some ⟨a1,0,none⟩) L.mends.length L.mends.length) (.slice (some ⟨a2,0,none⟩) L.teams.length L.teams.length):=by rw[eb];exact⟨bd.bp _ _ _ _ _ _ _ _ _ _ (by simp),(bC.bp w _ _ _ _ _ rfl).cy _⟩
  intro W hW;exact⟨q.1.later hW,q.2.later hW⟩
 go_enter Tryz.func40,Tryz.ntmps40
 go_upto_region 1 with fail
 rw[← eb];clear eb;obtain⟨aS,_⟩:=dE.out w1 br;obtain⟨yz,y0,y1,y2,y3,y4,y5,y6⟩:=aS;by_cases hlen:K.ledgers.length≤10
 ·obtain⟨ra,vx⟩:∃ ra,ra=gA K.ledgers:=⟨_,rfl⟩
  have HC:Hid (Calls Tryz.prog 91 #[.slice (some ⟨e2,0,none⟩) K.ledgers.length K.ledgers.length,.func (.func 92) #[] #[]] w1 fun e w'=>e=.returned (.bool ra)∧Bel w1 w'):=by
   show Calls _ _ _ _ _;rw[vx];exact E3 _ _ _ (HA.out.2.later cQ.out).l
  have zi:Hid (ra=gA K.ledgers):=vx;clear vx;go_wp2_with fail
  refine HC.out.mono ?_;rintro e w2 ⟨rfl,aA⟩;clear yz y0 y1 y2 y3 y4 y5 y6 HC;cases ra
  ·have HE:Hid (R=false):=by show _=_;rw[HR.out,← zi.out];simp
   go_wp2;go_ret;exact⟨Pl.ae HE.out.symm,aa cQ.out aA⟩
  ·have mm:Hid (R=aC (cN L K) K.ledgers.length):=by show R=_;rw[HR.out,← zi.out];simp[hlen]
   have HL:Hid (K.ledgers.length≤10):=hlen;clear hlen;obtain⟨aS,_⟩:=dE.out w2 aA;obtain⟨yz,y0,y1,y2,y3,y4,y5,y6⟩:=aS;go_wp2;clear yz y0 y1 y2 y3 y4 y5 y6;go_loopw [20] (fun i wr=>∃ q:Nat,q≤K.ledgers.length∧i=.int .i64 q∧aC (cN L K) q=true∧Bel w1 wr) (fun i _=>K.ledgers.length - (intOf i).toNat)
   case atStart=>exact⟨0,nz,rfl,rfl,aA⟩
   case round=>
    obtain⟨q,hq,rfl,ha,hW⟩:=hrel;have HQ:Hid (aC (cN L K) q=true):=ha;have fw:=hid (aa cQ.out hW);clear ha;by_cases av:q<K.ledgers.length
    ·obtain⟨x,hx⟩:∃ x,x=K.ledgers.getD q Lg.none:=⟨_,rfl⟩
     have bA:=(HA.out.2.later fw.out).l;have gJ:=bA.lt;have dO:=bA.at_ q av;rw[← hx]at dO;obtain⟨c0,c1,c2,c3,eU⟩:=dO;obtain⟨w4,eo⟩:∃ w4,w4=wr.alloc (.cells #[.string x.team,.string x.res,.int .i64 x.most,.int .i64 x.free] 131):=⟨_,rfl⟩
     obtain⟨E,hE⟩:∃ E,E=wr.heap.size:=⟨_,rfl⟩
     have dD:Bel wr w4:=by rw[eo];exact ab br _
     have js:=hid (aa hW dD);have aZ:=hid (aa fw.out dD);have iO:Hid (∀ W,Bel w4 W→bd W (w.heap.size+1) (.int .i64 K.now) (.int .i64 K.tick) (.int .i64 K.given) (.slice (some ⟨e0,0,none⟩) K.objects.length K.objects.length) (.slice (some ⟨e1,0,none⟩) K.grants.length K.grants.length) (.slice (some ⟨e2,0,none⟩) K.ledgers.length K.ledgers.length) (.slice (some ⟨e3,0,none⟩) K.purses.length K.purses.length)∧bC W w.heap.size (.slice (some ⟨a0,0,none⟩) L.shapes.length L.shapes.length) (.slice (some ⟨a1,0,none⟩) L.mends.length L.mends.length) (.slice (some ⟨a2,0,none⟩) L.teams.length L.teams.length)∧aM W E #[.string x.team,.string x.res,.int .i64 x.most,.int .i64 x.free]):=by
      intro W bG;have q:=dE.out W (aa js.out bG);refine⟨q.1,q.2,aM.later ?_ bG⟩;rw[eo];exact aM.bp _ _ _ _ hE
     obtain⟨b1,bl⟩:∃ b1,b1=(bB L.teams x.team):=⟨_,rfl⟩
     have ey:Hid (∀ W,Bel w4 W→Calls Tryz.prog 93 #[.slice (some ⟨a2,0,none⟩) L.teams.length L.teams.length,.string x.team] W fun e w'=>e=.returned (.bool b1)∧Bel W w'):=fun W bG=>by
      rw[bl];have fu:=aa aZ.out bG;exact jH a2 L.teams x.team W (HA.out.1.later fu).t
     obtain⟨b2,aA⟩:∃ b2,b2=(Pl.aq x.res):=⟨_,rfl⟩
     have gh:Hid (∀ W,Bel w4 W→Calls Tryz.prog 89 #[.string x.res] W fun e w'=>e=.returned (.bool b2)∧W=w'):=fun W bG=>by
      rw[aA];have fu:=aa aZ.out bG;exact aJ x.res W eU.2
     obtain⟨b3,aO⟩:∃ b3,b3=(within x.most 0 1000000):=⟨_,rfl⟩
     have fc:Hid (∀ W,Bel w4 W→Calls Tryz.prog 83 #[.int .i64 x.most,.int .i64 0,.int .i64 1000000] W fun e w'=>e=.returned (.bool b3)∧W=w'):=fun W bG=>by
      rw[aO];have fu:=aa aZ.out bG;exact hU _ _ _ W
     obtain⟨b4,cA⟩:∃ b4,b4=(within x.free 0 x.most):=⟨_,rfl⟩
     have eY:Hid (∀ W,Bel w4 W→Calls Tryz.prog 83 #[.int .i64 x.free,.int .i64 0,.int .i64 x.most] W fun e w'=>e=.returned (.bool b4)∧W=w'):=fun W bG=>by
      rw[cA];have fu:=aa aZ.out bG;exact hU _ _ _ W
     have HP:Hid (cN L K q=(b1&&b2&&b3&&b4)):=by show _=_;unfold cN lQ;rw[← hx,bl,aA,aO,cA]
     clear bl aA aO cA eU;have HF:Hid ((b1&&b2&&b3&&b4)=false→R=false):=fun hh=>by rw[mm.out];exact ba av (HP.out.trans hh)
     have HT:Hid ((b1&&b2&&b3&&b4)=true→aC (cN L K) (q+1)=true):=fun hh=>aV HQ.out (HP.out.trans hh);have HK:Hid (Bel w4 w4):=br;clear hx bA;obtain⟨aS,_⟩:=dE.out wr hW;obtain⟨yz,y0,y1,y2,y3,y4,y5,y6⟩:=aS;go_upto_region 6 with fail
     rw[← eo,← hE];clear eo hE dD c0 c1 c2 c3 gJ yz y0 y1 y2 y3 y4 y5 y6 hW;obtain⟨aS,bD,ao⟩:=iO.out w4 HK.out;obtain⟨yz,y0,y1,y2,y3,y4,y5,y6⟩:=aS;obtain⟨lz,l0,l1,l2⟩:=bD;have ez:=ao.lt;have x0:w4.cell? ⟨E,0,none⟩=some (.string x.team):=ao.at_ 0;have x1:w4.cell? ⟨E,1,none⟩=some (.string x.res):=ao.at_ 1;have x2:w4.cell? ⟨E,2,none⟩=some (.int .i64 x.most):=ao.at_ 2;have x3:w4.cell? ⟨E,3,none⟩=some (.int .i64 x.free):=ao.at_ 3;clear ao;go_wp2_with fail
     refine(ey.out w4 HK.out).mono ?_;rintro e cV ⟨rfl,mO⟩;have iI:=aa HK.out mO;clear HK;have HK:Hid (Bel w4 cV):=iI;clear iI mO;clear yz y0 y1 y2 y3 y4 y5 y6 lz l0 l1 l2 ez x0 x1 x2 x3;cases b1
     ·obtain⟨aS,bD,ao⟩:=iO.out cV HK.out;obtain⟨yz,y0,y1,y2,y3,y4,y5,y6⟩:=aS;obtain⟨lz,l0,l1,l2⟩:=bD;have ez:=ao.lt;have x0:cV.cell? ⟨E,0,none⟩=some (.string x.team):=ao.at_ 0;have x1:cV.cell? ⟨E,1,none⟩=some (.string x.res):=ao.at_ 1;have x2:cV.cell? ⟨E,2,none⟩=some (.int .i64 x.most):=ao.at_ 2;have x3:cV.cell? ⟨E,3,none⟩=some (.int .i64 x.free):=ao.at_ 3;clear ao;go_wp2;go_ret;exact⟨Pl.ae (HF.out (by simp)).symm,aa aZ.out HK.out⟩
     ·obtain⟨aS,bD,ao⟩:=iO.out cV HK.out;obtain⟨yz,y0,y1,y2,y3,y4,y5,y6⟩:=aS;obtain⟨lz,l0,l1,l2⟩:=bD;have ez:=ao.lt;have x0:cV.cell? ⟨E,0,none⟩=some (.string x.team):=ao.at_ 0;have x1:cV.cell? ⟨E,1,none⟩=some (.string x.res):=ao.at_ 1;have x2:cV.cell? ⟨E,2,none⟩=some (.int .i64 x.most):=ao.at_ 2;have x3:cV.cell? ⟨E,3,none⟩=some (.int .i64 x.free):=ao.at_ 3;clear ao;go_wp2_with fail
      refine(gh.out cV HK.out).mono ?_;rintro e w7 ⟨rfl,rfl⟩;clear yz y0 y1 y2 y3 y4 y5 y6 lz l0 l1 l2 ez x0 x1 x2 x3;cases b2
      ·obtain⟨aS,bD,ao⟩:=iO.out cV HK.out;obtain⟨yz,y0,y1,y2,y3,y4,y5,y6⟩:=aS;obtain⟨lz,l0,l1,l2⟩:=bD;have ez:=ao.lt;have x0:cV.cell? ⟨E,0,none⟩=some (.string x.team):=ao.at_ 0;have x1:cV.cell? ⟨E,1,none⟩=some (.string x.res):=ao.at_ 1;have x2:cV.cell? ⟨E,2,none⟩=some (.int .i64 x.most):=ao.at_ 2;have x3:cV.cell? ⟨E,3,none⟩=some (.int .i64 x.free):=ao.at_ 3;clear ao;go_wp2;go_ret;exact⟨Pl.ae (HF.out (by simp)).symm,aa aZ.out HK.out⟩
      ·obtain⟨aS,bD,ao⟩:=iO.out cV HK.out;obtain⟨yz,y0,y1,y2,y3,y4,y5,y6⟩:=aS;obtain⟨lz,l0,l1,l2⟩:=bD;have ez:=ao.lt;have x0:cV.cell? ⟨E,0,none⟩=some (.string x.team):=ao.at_ 0;have x1:cV.cell? ⟨E,1,none⟩=some (.string x.res):=ao.at_ 1;have x2:cV.cell? ⟨E,2,none⟩=some (.int .i64 x.most):=ao.at_ 2;have x3:cV.cell? ⟨E,3,none⟩=some (.int .i64 x.free):=ao.at_ 3;clear ao;go_wp2_with fail
       refine(fc.out cV HK.out).mono ?_;rintro e w7 ⟨rfl,rfl⟩;clear yz y0 y1 y2 y3 y4 y5 y6 lz l0 l1 l2 ez x0 x1 x2 x3;cases b3
       ·obtain⟨aS,bD,ao⟩:=iO.out cV HK.out;obtain⟨yz,y0,y1,y2,y3,y4,y5,y6⟩:=aS;obtain⟨lz,l0,l1,l2⟩:=bD;have ez:=ao.lt;have x0:cV.cell? ⟨E,0,none⟩=some (.string x.team):=ao.at_ 0;have x1:cV.cell? ⟨E,1,none⟩=some (.string x.res):=ao.at_ 1;have x2:cV.cell? ⟨E,2,none⟩=some (.int .i64 x.most):=ao.at_ 2;have x3:cV.cell? ⟨E,3,none⟩=some (.int .i64 x.free):=ao.at_ 3;clear ao;go_wp2;go_ret;exact⟨Pl.ae (HF.out (by simp)).symm,aa aZ.out HK.out⟩
       ·obtain⟨aS,bD,ao⟩:=iO.out cV HK.out;obtain⟨yz,y0,y1,y2,y3,y4,y5,y6⟩:=aS;obtain⟨lz,l0,l1,l2⟩:=bD;have ez:=ao.lt;have x0:cV.cell? ⟨E,0,none⟩=some (.string x.team):=ao.at_ 0;have x1:cV.cell? ⟨E,1,none⟩=some (.string x.res):=ao.at_ 1;have x2:cV.cell? ⟨E,2,none⟩=some (.int .i64 x.most):=ao.at_ 2;have x3:cV.cell? ⟨E,3,none⟩=some (.int .i64 x.free):=ao.at_ 3;clear ao;go_wp2_with fail
        refine(eY.out cV HK.out).mono ?_;rintro e w7 ⟨rfl,rfl⟩;clear yz y0 y1 y2 y3 y4 y5 y6 lz l0 l1 l2 ez x0 x1 x2 x3;cases b4
        ·obtain⟨aS,bD,ao⟩:=iO.out cV HK.out;obtain⟨yz,y0,y1,y2,y3,y4,y5,y6⟩:=aS;obtain⟨lz,l0,l1,l2⟩:=bD;have ez:=ao.lt;have x0:cV.cell? ⟨E,0,none⟩=some (.string x.team):=ao.at_ 0;have x1:cV.cell? ⟨E,1,none⟩=some (.string x.res):=ao.at_ 1;have x2:cV.cell? ⟨E,2,none⟩=some (.int .i64 x.most):=ao.at_ 2;have x3:cV.cell? ⟨E,3,none⟩=some (.int .i64 x.free):=ao.at_ 3;clear ao;go_wp2;go_ret;exact⟨Pl.ae (HF.out (by simp)).symm,aa aZ.out HK.out⟩
        ·obtain⟨aS,bD,ao⟩:=iO.out cV HK.out;obtain⟨yz,y0,y1,y2,y3,y4,y5,y6⟩:=aS;obtain⟨lz,l0,l1,l2⟩:=bD;have ez:=ao.lt;have x0:cV.cell? ⟨E,0,none⟩=some (.string x.team):=ao.at_ 0;have x1:cV.cell? ⟨E,1,none⟩=some (.string x.res):=ao.at_ 1;have x2:cV.cell? ⟨E,2,none⟩=some (.int .i64 x.most):=ao.at_ 2;have x3:cV.cell? ⟨E,3,none⟩=some (.int .i64 x.free):=ao.at_ 3;clear ao;go_wp2;go_roundw
         case rel=>exact⟨q+1,by omega,by go_num,HT.out rfl,aa js.out HK.out⟩
         case measure=>simp[intOf];omega
    ·have HE:Hid (R=true):=by
      show R=true;rw[mm.out];obtain rfl:q=K.ledgers.length:=by omega
      exact HQ.out
     go_wp2;go_ret;exact⟨Pl.ae HE.out.symm,fw.out⟩
 ·have HE:Hid (R=false):=by show _=_;rw[HR.out];simp[hlen]
  go_wp2;go_ret;exact⟨Pl.ae HE.out.symm,cQ.out⟩
theorem xu (K:Bk) (e0 e1 e2 e3:Nat) (w:World) (hK:fG w e0 e1 e2 e3 K) (Cs:Hid (gA K.ledgers=true)) (ht0:0≤K.tick) (yI:K.tick≤1000000):
  Calls Tryz.prog 41 #[.agg #[.int .i64 K.now,.int .i64 K.tick,.int .i64 K.given,.slice (some ⟨e0,0,none⟩) K.objects.length K.objects.length,.slice (some ⟨e1,0,none⟩) K.grants.length K.grants.length,.slice (some ⟨e2,0,none⟩) K.ledgers.length K.ledgers.length,.slice (some ⟨e3,0,none⟩) K.purses.length K.purses.length]] w fun e w'=>e=.returned (.bool (eG K))∧Bel w w':=by
 have HA:=hid (And.intro trivial hK);have hl:=hK.p.len;obtain⟨R,hR⟩:∃ R,R=eG K:=⟨_,rfl⟩
 have HR:Hid (R=(decide (K.purses.length≤24)&&m8 K.purses&&aC (cL K) K.purses.length)):=hR;rw[← hR];clear hK hR;obtain⟨w1,eb⟩:∃ w1,w1=w.alloc (.cells #[.int .i64 K.now,.int .i64 K.tick,.int .i64 K.given,.slice (some ⟨e0,0,none⟩) K.objects.length K.objects.length,.slice (some ⟨e1,0,none⟩) K.grants.length K.grants.length,.slice (some ⟨e2,0,none⟩) K.ledgers.length K.ledgers.length,.slice (some ⟨e3,0,none⟩) K.purses.length K.purses.length] 47):=⟨_,rfl⟩
 have cQ:Hid (Bel w w1):=by show Below _ _ _;rw[eb];exact ab br _
 have dE:Hid (∀ W,Bel w1 W→bd W w.heap.size (.int .i64 K.now) (.int .i64 K.tick) (.int .i64 K.given) (.slice (some ⟨e0,0,none⟩) K.objects.length K.objects.length) (.slice (some ⟨e1,0,none⟩) K.grants.length K.grants.length) (.slice (some ⟨e2,0,none⟩) K.ledgers.length K.ledgers.length) (.slice (some ⟨e3,0,none⟩) K.purses.length K.purses.length)∧True):=by
  have q:bd w1 w.heap.size (.int .i64 K.now) (.int .i64 K.tick) (.int .i64 K.given) (.slice (some ⟨e0,0,none⟩) K.objects.length K.objects.length) (.slice (some ⟨e1,0,none⟩) K.grants.length K.grants.length) (.slice (some ⟨e2,0,none⟩) K.ledgers.length K.ledgers.length) (.slice (some ⟨e3,0,none⟩) K.purses.length K.purses.length)∧True:=by rw[eb];exact⟨bd.bp w _ _ _ _ _ _ _ _ _ rfl,trivial⟩
  intro W hW;exact⟨q.1.later hW,trivial⟩
 go_enter Tryz.func41,Tryz.ntmps41
 go_upto_region 1 with fail
 rw[← eb];clear eb;obtain⟨aS,_⟩:=dE.out w1 br;obtain⟨yz,y0,y1,y2,y3,y4,y5,y6⟩:=aS;by_cases hlen:K.purses.length≤24
 ·obtain⟨ra,vx⟩:∃ ra,ra=m8 K.purses:=⟨_,rfl⟩
  have HC:Hid (Calls Tryz.prog 94 #[.slice (some ⟨e3,0,none⟩) K.purses.length K.purses.length,.func (.func 95) #[] #[]] w1 fun e w'=>e=.returned (.bool ra)∧Bel w1 w'):=by
   show Calls _ _ _ _ _;rw[vx];exact FM _ _ _ (HA.out.2.later cQ.out).p
  have zi:Hid (ra=m8 K.purses):=vx;clear vx;go_wp2_with fail
  refine HC.out.mono ?_;rintro e w2 ⟨rfl,aA⟩;clear yz y0 y1 y2 y3 y4 y5 y6 HC;cases ra
  ·have HE:Hid (R=false):=by show _=_;rw[HR.out,← zi.out];simp
   go_wp2;go_ret;exact⟨Pl.ae HE.out.symm,aa cQ.out aA⟩
  ·have mm:Hid (R=aC (cL K) K.purses.length):=by show R=_;rw[HR.out,← zi.out];simp[hlen]
   have HL:Hid (K.purses.length≤24):=hlen;clear hlen;obtain⟨aS,_⟩:=dE.out w2 aA;obtain⟨yz,y0,y1,y2,y3,y4,y5,y6⟩:=aS;go_wp2;clear yz y0 y1 y2 y3 y4 y5 y6;go_loopw [20] (fun i wr=>∃ q:Nat,q≤K.purses.length∧i=.int .i64 q∧aC (cL K) q=true∧Bel w1 wr) (fun i _=>K.purses.length - (intOf i).toNat)
   case atStart=>exact⟨0,nz,rfl,rfl,aA⟩
   case round=>
    obtain⟨q,hq,rfl,ha,hW⟩:=hrel;have HQ:Hid (aC (cL K) q=true):=ha;have fw:=hid (aa cQ.out hW);clear ha;by_cases av:q<K.purses.length
    ·obtain⟨x,hx⟩:∃ x,x=K.purses.getD q Ps.none:=⟨_,rfl⟩
     have bA:=(HA.out.2.later fw.out).p;have gJ:=bA.lt;have dO:=bA.at_ q av;rw[← hx]at dO;obtain⟨c0,c1,c2,c3,c4,eU⟩:=dO;obtain⟨w4,eo⟩:∃ w4,w4=wr.alloc (.cells #[.string x.door,.string x.team,.string x.res,.int .i64 x.amount,.int .i64 x.til] 129):=⟨_,rfl⟩
     obtain⟨E,hE⟩:∃ E,E=wr.heap.size:=⟨_,rfl⟩
     have dD:Bel wr w4:=by rw[eo];exact ab br _
     have js:=hid (aa hW dD);have aZ:=hid (aa fw.out dD);have iO:Hid (∀ W,Bel w4 W→bd W w.heap.size (.int .i64 K.now) (.int .i64 K.tick) (.int .i64 K.given) (.slice (some ⟨e0,0,none⟩) K.objects.length K.objects.length) (.slice (some ⟨e1,0,none⟩) K.grants.length K.grants.length) (.slice (some ⟨e2,0,none⟩) K.ledgers.length K.ledgers.length) (.slice (some ⟨e3,0,none⟩) K.purses.length K.purses.length)∧True∧aM W E #[.string x.door,.string x.team,.string x.res,.int .i64 x.amount,.int .i64 x.til]):=by
      intro W bG;have q:=dE.out W (aa js.out bG);refine⟨q.1,q.2,aM.later ?_ bG⟩;rw[eo];exact aM.bp _ _ _ _ hE
     obtain⟨b1,bl⟩:∃ b1,b1=decide (ir K.ledgers x.team x.res<K.ledgers.length):=⟨_,rfl⟩
     obtain⟨pl,eI⟩:∃ pl,pl=dG K.ledgers x.team x.res:=⟨_,rfl⟩
     have ey:Hid (∀ W,Bel w4 W→Calls Tryz.prog 96 #[.slice (some ⟨e2,0,none⟩) K.ledgers.length K.ledgers.length,.string x.team,.string x.res] W fun e w'=>e=.returned (.tuple #[.int .i64 (pl:Nat),.bool b1])∧Bel W w'):=fun W bG=>by
      rw[bl,eI];have fu:=aa aZ.out bG;exact mG e2 K.ledgers x.team x.res W (HA.out.2.later fu).l Cs.out
     clear eI;obtain⟨b2,aA⟩:∃ b2,b2=(Pl.aq x.door):=⟨_,rfl⟩
     have gh:Hid (∀ W,Bel w4 W→Calls Tryz.prog 89 #[.string x.door] W fun e w'=>e=.returned (.bool b2)∧W=w'):=fun W bG=>by
      rw[aA];have fu:=aa aZ.out bG;exact aJ x.door W eU.1
     obtain⟨b3,aO⟩:∃ b3,b3=(within x.amount 1 1000000):=⟨_,rfl⟩
     have fc:Hid (∀ W,Bel w4 W→Calls Tryz.prog 83 #[.int .i64 x.amount,.int .i64 1,.int .i64 1000000] W fun e w'=>e=.returned (.bool b3)∧W=w'):=fun W bG=>by
      rw[aO];have fu:=aa aZ.out bG;exact hU _ _ _ W
     obtain⟨b4,cA⟩:∃ b4,b4=(within x.til K.tick (K.tick+10)):=⟨_,rfl⟩
     have eY:Hid (∀ W,Bel w4 W→Calls Tryz.prog 83 #[.int .i64 x.til,.int .i64 K.tick,.int .i64 (K.tick+10)] W fun e w'=>e=.returned (.bool b4)∧W=w'):=fun W bG=>by
      rw[cA];have fu:=aa aZ.out bG;exact hU _ _ _ W
     have HP:Hid (cL K q=(b1&&b2&&b3&&b4)):=by show _=_;unfold cL lZ;rw[← hx,bl,aA,aO,cA]
     clear bl aA aO cA eU;have HF:Hid ((b1&&b2&&b3&&b4)=false→R=false):=fun hh=>by rw[mm.out];exact ba av (HP.out.trans hh)
     have HT:Hid ((b1&&b2&&b3&&b4)=true→aC (cL K) (q+1)=true):=fun hh=>aV HQ.out (HP.out.trans hh);have HK:Hid (Bel w4 w4):=br;clear hx bA;obtain⟨aS,_⟩:=dE.out wr hW;obtain⟨yz,y0,y1,y2,y3,y4,y5,y6⟩:=aS;go_upto_region 6 with fail
     rw[← eo,← hE];clear eo hE dD c0 c1 c2 c3 c4 gJ yz y0 y1 y2 y3 y4 y5 y6 hW;obtain⟨aS,bD,ao⟩:=iO.out w4 HK.out;obtain⟨yz,y0,y1,y2,y3,y4,y5,y6⟩:=aS;have ez:=ao.lt;have x0:w4.cell? ⟨E,0,none⟩=some (.string x.door):=ao.at_ 0;have x1:w4.cell? ⟨E,1,none⟩=some (.string x.team):=ao.at_ 1;have x2:w4.cell? ⟨E,2,none⟩=some (.string x.res):=ao.at_ 2;have x3:w4.cell? ⟨E,3,none⟩=some (.int .i64 x.amount):=ao.at_ 3;have x4:w4.cell? ⟨E,4,none⟩=some (.int .i64 x.til):=ao.at_ 4;clear ao bD;go_wp2_with fail
     refine(ey.out w4 HK.out).mono ?_;rintro e cV ⟨rfl,mO⟩;have iI:=aa HK.out mO;clear HK;have HK:Hid (Bel w4 cV):=iI;clear iI mO;clear yz y0 y1 y2 y3 y4 y5 y6 ez x0 x1 x2 x3 x4;cases b1
     ·obtain⟨aS,bD,ao⟩:=iO.out cV HK.out;obtain⟨yz,y0,y1,y2,y3,y4,y5,y6⟩:=aS;have ez:=ao.lt;have x0:cV.cell? ⟨E,0,none⟩=some (.string x.door):=ao.at_ 0;have x1:cV.cell? ⟨E,1,none⟩=some (.string x.team):=ao.at_ 1;have x2:cV.cell? ⟨E,2,none⟩=some (.string x.res):=ao.at_ 2;have x3:cV.cell? ⟨E,3,none⟩=some (.int .i64 x.amount):=ao.at_ 3;have x4:cV.cell? ⟨E,4,none⟩=some (.int .i64 x.til):=ao.at_ 4;clear ao bD;go_wp2;go_ret;exact⟨Pl.ae (HF.out (by simp)).symm,aa aZ.out HK.out⟩
     ·obtain⟨aS,bD,ao⟩:=iO.out cV HK.out;obtain⟨yz,y0,y1,y2,y3,y4,y5,y6⟩:=aS;have ez:=ao.lt;have x0:cV.cell? ⟨E,0,none⟩=some (.string x.door):=ao.at_ 0;have x1:cV.cell? ⟨E,1,none⟩=some (.string x.team):=ao.at_ 1;have x2:cV.cell? ⟨E,2,none⟩=some (.string x.res):=ao.at_ 2;have x3:cV.cell? ⟨E,3,none⟩=some (.int .i64 x.amount):=ao.at_ 3;have x4:cV.cell? ⟨E,4,none⟩=some (.int .i64 x.til):=ao.at_ 4;clear ao bD;go_wp2_with fail
      refine(gh.out cV HK.out).mono ?_;rintro e w7 ⟨rfl,rfl⟩;clear yz y0 y1 y2 y3 y4 y5 y6 ez x0 x1 x2 x3 x4;cases b2
      ·obtain⟨aS,bD,ao⟩:=iO.out cV HK.out;obtain⟨yz,y0,y1,y2,y3,y4,y5,y6⟩:=aS;have ez:=ao.lt;have x0:cV.cell? ⟨E,0,none⟩=some (.string x.door):=ao.at_ 0;have x1:cV.cell? ⟨E,1,none⟩=some (.string x.team):=ao.at_ 1;have x2:cV.cell? ⟨E,2,none⟩=some (.string x.res):=ao.at_ 2;have x3:cV.cell? ⟨E,3,none⟩=some (.int .i64 x.amount):=ao.at_ 3;have x4:cV.cell? ⟨E,4,none⟩=some (.int .i64 x.til):=ao.at_ 4;clear ao bD;go_wp2;go_ret;exact⟨Pl.ae (HF.out (by simp)).symm,aa aZ.out HK.out⟩
      ·obtain⟨aS,bD,ao⟩:=iO.out cV HK.out;obtain⟨yz,y0,y1,y2,y3,y4,y5,y6⟩:=aS;have ez:=ao.lt;have x0:cV.cell? ⟨E,0,none⟩=some (.string x.door):=ao.at_ 0;have x1:cV.cell? ⟨E,1,none⟩=some (.string x.team):=ao.at_ 1;have x2:cV.cell? ⟨E,2,none⟩=some (.string x.res):=ao.at_ 2;have x3:cV.cell? ⟨E,3,none⟩=some (.int .i64 x.amount):=ao.at_ 3;have x4:cV.cell? ⟨E,4,none⟩=some (.int .i64 x.til):=ao.at_ 4;clear ao bD;go_wp2_with fail
       refine(fc.out cV HK.out).mono ?_;rintro e w7 ⟨rfl,rfl⟩;clear yz y0 y1 y2 y3 y4 y5 y6 ez x0 x1 x2 x3 x4;cases b3
       ·obtain⟨aS,bD,ao⟩:=iO.out cV HK.out;obtain⟨yz,y0,y1,y2,y3,y4,y5,y6⟩:=aS;have ez:=ao.lt;have x0:cV.cell? ⟨E,0,none⟩=some (.string x.door):=ao.at_ 0;have x1:cV.cell? ⟨E,1,none⟩=some (.string x.team):=ao.at_ 1;have x2:cV.cell? ⟨E,2,none⟩=some (.string x.res):=ao.at_ 2;have x3:cV.cell? ⟨E,3,none⟩=some (.int .i64 x.amount):=ao.at_ 3;have x4:cV.cell? ⟨E,4,none⟩=some (.int .i64 x.til):=ao.at_ 4;clear ao bD;go_wp2;go_ret;exact⟨Pl.ae (HF.out (by simp)).symm,aa aZ.out HK.out⟩
       ·obtain⟨aS,bD,ao⟩:=iO.out cV HK.out;obtain⟨yz,y0,y1,y2,y3,y4,y5,y6⟩:=aS;have ez:=ao.lt;have x0:cV.cell? ⟨E,0,none⟩=some (.string x.door):=ao.at_ 0;have x1:cV.cell? ⟨E,1,none⟩=some (.string x.team):=ao.at_ 1;have x2:cV.cell? ⟨E,2,none⟩=some (.string x.res):=ao.at_ 2;have x3:cV.cell? ⟨E,3,none⟩=some (.int .i64 x.amount):=ao.at_ 3;have x4:cV.cell? ⟨E,4,none⟩=some (.int .i64 x.til):=ao.at_ 4;clear ao bD;go_wp2_with fail
        refine(eY.out cV HK.out).mono ?_;rintro e w7 ⟨rfl,rfl⟩;clear yz y0 y1 y2 y3 y4 y5 y6 ez x0 x1 x2 x3 x4;cases b4
        ·obtain⟨aS,bD,ao⟩:=iO.out cV HK.out;obtain⟨yz,y0,y1,y2,y3,y4,y5,y6⟩:=aS;have ez:=ao.lt;have x0:cV.cell? ⟨E,0,none⟩=some (.string x.door):=ao.at_ 0;have x1:cV.cell? ⟨E,1,none⟩=some (.string x.team):=ao.at_ 1;have x2:cV.cell? ⟨E,2,none⟩=some (.string x.res):=ao.at_ 2;have x3:cV.cell? ⟨E,3,none⟩=some (.int .i64 x.amount):=ao.at_ 3;have x4:cV.cell? ⟨E,4,none⟩=some (.int .i64 x.til):=ao.at_ 4;clear ao bD;go_wp2;go_ret;exact⟨Pl.ae (HF.out (by simp)).symm,aa aZ.out HK.out⟩
        ·obtain⟨aS,bD,ao⟩:=iO.out cV HK.out;obtain⟨yz,y0,y1,y2,y3,y4,y5,y6⟩:=aS;have ez:=ao.lt;have x0:cV.cell? ⟨E,0,none⟩=some (.string x.door):=ao.at_ 0;have x1:cV.cell? ⟨E,1,none⟩=some (.string x.team):=ao.at_ 1;have x2:cV.cell? ⟨E,2,none⟩=some (.string x.res):=ao.at_ 2;have x3:cV.cell? ⟨E,3,none⟩=some (.int .i64 x.amount):=ao.at_ 3;have x4:cV.cell? ⟨E,4,none⟩=some (.int .i64 x.til):=ao.at_ 4;clear ao bD;go_wp2;go_roundw
         case rel=>exact⟨q+1,by omega,by go_num,HT.out rfl,aa js.out HK.out⟩
         case measure=>simp[intOf];omega
    ·have HE:Hid (R=true):=by
      show R=true;rw[mm.out];obtain rfl:q=K.purses.length:=by omega
      exact HQ.out
     go_wp2;go_ret;exact⟨Pl.ae HE.out.symm,fw.out⟩
 ·have HE:Hid (R=false):=by show _=_;rw[HR.out];simp[hlen]
  go_wp2;go_ret;exact⟨Pl.ae HE.out.symm,cQ.out⟩
theorem xE (K:Bk) (e0 e1 e2 e3:Nat) (w:World) (hK:fG w e0 e1 e2 e3 K):
  Calls Tryz.prog 39 #[.agg #[.int .i64 K.now,.int .i64 K.tick,.int .i64 K.given,.slice (some ⟨e0,0,none⟩) K.objects.length K.objects.length,.slice (some ⟨e1,0,none⟩) K.grants.length K.grants.length,.slice (some ⟨e2,0,none⟩) K.ledgers.length K.ledgers.length,.slice (some ⟨e3,0,none⟩) K.purses.length K.purses.length]] w fun e w'=>e=.returned (.bool (eH K))∧Bel w w':=by
 have HA:=hid (And.intro trivial hK);have hl:=hK.g.len;obtain⟨R,hR⟩:∃ R,R=eH K:=⟨_,rfl⟩
 have HR:Hid (R=(decide (K.grants.length≤24)&&oi K.grants&&aC (bZ K) K.grants.length)):=hR;rw[← hR];clear hK hR;obtain⟨w1,eb⟩:∃ w1,w1=w.alloc (.cells #[.int .i64 K.now,.int .i64 K.tick,.int .i64 K.given,.slice (some ⟨e0,0,none⟩) K.objects.length K.objects.length,.slice (some ⟨e1,0,none⟩) K.grants.length K.grants.length,.slice (some ⟨e2,0,none⟩) K.ledgers.length K.ledgers.length,.slice (some ⟨e3,0,none⟩) K.purses.length K.purses.length] 47):=⟨_,rfl⟩
 have cQ:Hid (Bel w w1):=by show Below _ _ _;rw[eb];exact ab br _
 have dE:Hid (∀ W,Bel w1 W→bd W w.heap.size (.int .i64 K.now) (.int .i64 K.tick) (.int .i64 K.given) (.slice (some ⟨e0,0,none⟩) K.objects.length K.objects.length) (.slice (some ⟨e1,0,none⟩) K.grants.length K.grants.length) (.slice (some ⟨e2,0,none⟩) K.ledgers.length K.ledgers.length) (.slice (some ⟨e3,0,none⟩) K.purses.length K.purses.length)∧True):=by
  have q:bd w1 w.heap.size (.int .i64 K.now) (.int .i64 K.tick) (.int .i64 K.given) (.slice (some ⟨e0,0,none⟩) K.objects.length K.objects.length) (.slice (some ⟨e1,0,none⟩) K.grants.length K.grants.length) (.slice (some ⟨e2,0,none⟩) K.ledgers.length K.ledgers.length) (.slice (some ⟨e3,0,none⟩) K.purses.length K.purses.length)∧True:=by rw[eb];exact⟨bd.bp w _ _ _ _ _ _ _ _ _ rfl,trivial⟩
  intro W hW;exact⟨q.1.later hW,trivial⟩
 go_enter Tryz.func39,Tryz.ntmps39
 go_upto_region 1 with fail
 rw[← eb];clear eb;obtain⟨aS,_⟩:=dE.out w1 br;obtain⟨yz,y0,y1,y2,y3,y4,y5,y6⟩:=aS;by_cases hlen:K.grants.length≤24
 ·obtain⟨ra,vx⟩:∃ ra,ra=oi K.grants:=⟨_,rfl⟩
  have HC:Hid (Calls Tryz.prog 87 #[.slice (some ⟨e1,0,none⟩) K.grants.length K.grants.length,.func (.func 88) #[] #[]] w1 fun e w'=>e=.returned (.bool ra)∧Bel w1 w'):=by
   show Calls _ _ _ _ _;rw[vx];exact FW _ _ _ (HA.out.2.later cQ.out).g
  have zi:Hid (ra=oi K.grants):=vx;clear vx;go_wp2_with fail
  refine HC.out.mono ?_;rintro e w2 ⟨rfl,aA⟩;clear yz y0 y1 y2 y3 y4 y5 y6 HC;cases ra
  ·have HE:Hid (R=false):=by show _=_;rw[HR.out,← zi.out];simp
   go_wp2;go_ret;exact⟨Pl.ae HE.out.symm,aa cQ.out aA⟩
  ·have mm:Hid (R=aC (bZ K) K.grants.length):=by show R=_;rw[HR.out,← zi.out];simp[hlen]
   have HL:=hid hlen;clear hlen;obtain⟨aS,_⟩:=dE.out w2 aA;obtain⟨yz,y0,y1,y2,y3,y4,y5,y6⟩:=aS;go_wp2;clear yz y0 y1 y2 y3 y4 y5 y6;go_loopw [19] (fun i wr=>∃ q:Nat,q≤K.grants.length∧i=.int .i64 q∧aC (bZ K) q=true∧Bel w1 wr) (fun i _=>K.grants.length - (intOf i).toNat)
   case atStart=>exact⟨0,nz,rfl,rfl,aA⟩
   case round=>
    obtain⟨q,hq,rfl,ha,hW⟩:=hrel;have HQ:Hid (aC (bZ K) q=true):=ha;have fw:=hid (aa cQ.out hW);clear ha;by_cases av:q<K.grants.length
    ·obtain⟨x,hx⟩:∃ x,x=K.grants.getD q Gr.none:=⟨_,rfl⟩
     have bA:=(HA.out.2.later fw.out).g;have gJ:=bA.lt;have dO:=bA.at_ q av;rw[← hx]at dO;obtain⟨b1x,_,c0,c1,c2,c3,c4,c5,c6,tj⟩:=dO;obtain⟨w4,eo⟩:∃ w4,w4=wr.alloc (.cells #[.int .i64 x.number,.string x.too,.string x.by_,.slice (some ⟨b1x,0,none⟩) x.rule.verbs.length x.rule.verbs.length,.string x.rule.kind,.string x.rule.team,.string x.rule.pre] 126):=⟨_,rfl⟩
     obtain⟨E,hE⟩:∃ E,E=wr.heap.size:=⟨_,rfl⟩
     have dD:Bel wr w4:=by rw[eo];exact ab br _
     have js:=hid (aa hW dD);have aZ:=hid (aa fw.out dD);have iO:Hid (∀ W,Bel w4 W→bd W w.heap.size (.int .i64 K.now) (.int .i64 K.tick) (.int .i64 K.given) (.slice (some ⟨e0,0,none⟩) K.objects.length K.objects.length) (.slice (some ⟨e1,0,none⟩) K.grants.length K.grants.length) (.slice (some ⟨e2,0,none⟩) K.ledgers.length K.ledgers.length) (.slice (some ⟨e3,0,none⟩) K.purses.length K.purses.length)∧True∧aM W E #[.int .i64 x.number,.string x.too,.string x.by_,.slice (some ⟨b1x,0,none⟩) x.rule.verbs.length x.rule.verbs.length,.string x.rule.kind,.string x.rule.team,.string x.rule.pre]):=by
      intro W bG;have q:=dE.out W (aa js.out bG);refine⟨q.1,q.2,aM.later ?_ bG⟩;rw[eo];exact aM.bp _ _ _ _ hE
     obtain⟨b1,bl⟩:∃ b1,b1=(within x.number 1 K.given):=⟨_,rfl⟩
     have ey:Hid (∀ W,Bel w4 W→Calls Tryz.prog 83 #[.int .i64 x.number,.int .i64 1,.int .i64 K.given] W fun e w'=>e=.returned (.bool b1)∧W=w'):=fun W bG=>by
      rw[bl];have fu:=aa aZ.out bG;exact hU _ _ _ W
     obtain⟨b2,aA⟩:∃ b2,b2=(Pl.aq x.too):=⟨_,rfl⟩
     have gh:Hid (∀ W,Bel w4 W→Calls Tryz.prog 89 #[.string x.too] W fun e w'=>e=.returned (.bool b2)∧W=w'):=fun W bG=>by
      rw[aA];have fu:=aa aZ.out bG;exact aJ x.too W tj.2.1
     obtain⟨b3,aO⟩:∃ b3,b3=(Pl.aq x.by_):=⟨_,rfl⟩
     have fc:Hid (∀ W,Bel w4 W→Calls Tryz.prog 89 #[.string x.by_] W fun e w'=>e=.returned (.bool b3)∧W=w'):=fun W bG=>by
      rw[aO];have fu:=aa aZ.out bG;exact aJ x.by_ W tj.2.2.1
     obtain⟨b4,cA⟩:∃ b4,b4=(eO x.rule):=⟨_,rfl⟩
     have eY:Hid (∀ W,Bel w4 W→Calls Tryz.prog 90 #[.agg #[.slice (some ⟨b1x,0,none⟩) x.rule.verbs.length x.rule.verbs.length,.string x.rule.kind,.string x.rule.team,.string x.rule.pre]] W fun e w'=>e=.returned (.bool b4)∧Bel W w'):=fun W bG=>by
      rw[cA];have fu:=aa aZ.out bG;exact uK b1x x.rule W ((tj.1.later dD).later bG) tj.2.2.2.2
     have HP:Hid (bZ K q=(b1&&b2&&(x.by_.toList.isEmpty||b3)&&b4)):=by show _=_;unfold bZ l8;rw[← hx,bl,aA,aO,cA]
     clear bl aA aO cA tj;have HF:Hid ((b1&&b2&&(x.by_.toList.isEmpty||b3)&&b4)=false→R=false):=fun hh=>by rw[mm.out];exact ba av (HP.out.trans hh)
     have HT:Hid ((b1&&b2&&(x.by_.toList.isEmpty||b3)&&b4)=true→aC (bZ K) (q+1)=true):=fun hh=>aV HQ.out (HP.out.trans hh);have HK:Hid (Bel w4 w4):=br;clear hx bA;obtain⟨aS,_⟩:=dE.out wr hW;obtain⟨yz,y0,y1,y2,y3,y4,y5,y6⟩:=aS;go_upto_region 6 with fail
     rw[← eo,← hE];clear eo hE dD c0 c1 c2 c3 c4 c5 c6 gJ yz y0 y1 y2 y3 y4 y5 y6 hW;cases he:x.by_.toList.isEmpty
     ·obtain⟨aS,bD,ao⟩:=iO.out w4 HK.out;obtain⟨yz,y0,y1,y2,y3,y4,y5,y6⟩:=aS;have ez:=ao.lt;have x0:w4.cell? ⟨E,0,none⟩=some (.int .i64 x.number):=ao.at_ 0;have x1:w4.cell? ⟨E,1,none⟩=some (.string x.too):=ao.at_ 1;have x2:w4.cell? ⟨E,2,none⟩=some (.string x.by_):=ao.at_ 2;have x3:w4.cell? ⟨E,3,none⟩=some (.slice (some ⟨b1x,0,none⟩) x.rule.verbs.length x.rule.verbs.length):=ao.at_ 3;have x4:w4.cell? ⟨E,4,none⟩=some (.string x.rule.kind):=ao.at_ 4;have x5:w4.cell? ⟨E,5,none⟩=some (.string x.rule.team):=ao.at_ 5;have x6:w4.cell? ⟨E,6,none⟩=some (.string x.rule.pre):=ao.at_ 6;clear ao bD;go_wp2_with fail
      refine(fc.out w4 HK.out).mono ?_;rintro e w7 ⟨rfl,rfl⟩;clear yz y0 y1 y2 y3 y4 y5 y6 ez x0 x1 x2 x3 x4 x5 x6;cases b3
      ·obtain⟨aS,bD,ao⟩:=iO.out w4 HK.out;obtain⟨yz,y0,y1,y2,y3,y4,y5,y6⟩:=aS;have ez:=ao.lt;have x0:w4.cell? ⟨E,0,none⟩=some (.int .i64 x.number):=ao.at_ 0;have x1:w4.cell? ⟨E,1,none⟩=some (.string x.too):=ao.at_ 1;have x2:w4.cell? ⟨E,2,none⟩=some (.string x.by_):=ao.at_ 2;have x3:w4.cell? ⟨E,3,none⟩=some (.slice (some ⟨b1x,0,none⟩) x.rule.verbs.length x.rule.verbs.length):=ao.at_ 3;have x4:w4.cell? ⟨E,4,none⟩=some (.string x.rule.kind):=ao.at_ 4;have x5:w4.cell? ⟨E,5,none⟩=some (.string x.rule.team):=ao.at_ 5;have x6:w4.cell? ⟨E,6,none⟩=some (.string x.rule.pre):=ao.at_ 6;clear ao bD;go_wp2_with fail
       refine(ey.out w4 HK.out).mono ?_;rintro e w7 ⟨rfl,rfl⟩;clear yz y0 y1 y2 y3 y4 y5 y6 ez x0 x1 x2 x3 x4 x5 x6;cases b1
       ·obtain⟨aS,bD,ao⟩:=iO.out w4 HK.out;obtain⟨yz,y0,y1,y2,y3,y4,y5,y6⟩:=aS;have ez:=ao.lt;have x0:w4.cell? ⟨E,0,none⟩=some (.int .i64 x.number):=ao.at_ 0;have x1:w4.cell? ⟨E,1,none⟩=some (.string x.too):=ao.at_ 1;have x2:w4.cell? ⟨E,2,none⟩=some (.string x.by_):=ao.at_ 2;have x3:w4.cell? ⟨E,3,none⟩=some (.slice (some ⟨b1x,0,none⟩) x.rule.verbs.length x.rule.verbs.length):=ao.at_ 3;have x4:w4.cell? ⟨E,4,none⟩=some (.string x.rule.kind):=ao.at_ 4;have x5:w4.cell? ⟨E,5,none⟩=some (.string x.rule.team):=ao.at_ 5;have x6:w4.cell? ⟨E,6,none⟩=some (.string x.rule.pre):=ao.at_ 6;clear ao bD;go_wp2;go_ret;exact⟨Pl.ae (HF.out (by simp[he])).symm,aa aZ.out HK.out⟩
       ·obtain⟨aS,bD,ao⟩:=iO.out w4 HK.out;obtain⟨yz,y0,y1,y2,y3,y4,y5,y6⟩:=aS;have ez:=ao.lt;have x0:w4.cell? ⟨E,0,none⟩=some (.int .i64 x.number):=ao.at_ 0;have x1:w4.cell? ⟨E,1,none⟩=some (.string x.too):=ao.at_ 1;have x2:w4.cell? ⟨E,2,none⟩=some (.string x.by_):=ao.at_ 2;have x3:w4.cell? ⟨E,3,none⟩=some (.slice (some ⟨b1x,0,none⟩) x.rule.verbs.length x.rule.verbs.length):=ao.at_ 3;have x4:w4.cell? ⟨E,4,none⟩=some (.string x.rule.kind):=ao.at_ 4;have x5:w4.cell? ⟨E,5,none⟩=some (.string x.rule.team):=ao.at_ 5;have x6:w4.cell? ⟨E,6,none⟩=some (.string x.rule.pre):=ao.at_ 6;clear ao bD;go_wp2_with fail
        refine(gh.out w4 HK.out).mono ?_;rintro e w7 ⟨rfl,rfl⟩;clear yz y0 y1 y2 y3 y4 y5 y6 ez x0 x1 x2 x3 x4 x5 x6;cases b2
        ·obtain⟨aS,bD,ao⟩:=iO.out w4 HK.out;obtain⟨yz,y0,y1,y2,y3,y4,y5,y6⟩:=aS;have ez:=ao.lt;have x0:w4.cell? ⟨E,0,none⟩=some (.int .i64 x.number):=ao.at_ 0;have x1:w4.cell? ⟨E,1,none⟩=some (.string x.too):=ao.at_ 1;have x2:w4.cell? ⟨E,2,none⟩=some (.string x.by_):=ao.at_ 2;have x3:w4.cell? ⟨E,3,none⟩=some (.slice (some ⟨b1x,0,none⟩) x.rule.verbs.length x.rule.verbs.length):=ao.at_ 3;have x4:w4.cell? ⟨E,4,none⟩=some (.string x.rule.kind):=ao.at_ 4;have x5:w4.cell? ⟨E,5,none⟩=some (.string x.rule.team):=ao.at_ 5;have x6:w4.cell? ⟨E,6,none⟩=some (.string x.rule.pre):=ao.at_ 6;clear ao bD;go_wp2;go_ret;exact⟨Pl.ae (HF.out (by simp[he])).symm,aa aZ.out HK.out⟩
        ·obtain⟨aS,bD,ao⟩:=iO.out w4 HK.out;obtain⟨yz,y0,y1,y2,y3,y4,y5,y6⟩:=aS;have ez:=ao.lt;have x0:w4.cell? ⟨E,0,none⟩=some (.int .i64 x.number):=ao.at_ 0;have x1:w4.cell? ⟨E,1,none⟩=some (.string x.too):=ao.at_ 1;have x2:w4.cell? ⟨E,2,none⟩=some (.string x.by_):=ao.at_ 2;have x3:w4.cell? ⟨E,3,none⟩=some (.slice (some ⟨b1x,0,none⟩) x.rule.verbs.length x.rule.verbs.length):=ao.at_ 3;have x4:w4.cell? ⟨E,4,none⟩=some (.string x.rule.kind):=ao.at_ 4;have x5:w4.cell? ⟨E,5,none⟩=some (.string x.rule.team):=ao.at_ 5;have x6:w4.cell? ⟨E,6,none⟩=some (.string x.rule.pre):=ao.at_ 6;clear ao bD;go_wp2;go_ret;exact⟨Pl.ae (HF.out (by simp[he])).symm,aa aZ.out HK.out⟩
      ·obtain⟨aS,bD,ao⟩:=iO.out w4 HK.out;obtain⟨yz,y0,y1,y2,y3,y4,y5,y6⟩:=aS;have ez:=ao.lt;have x0:w4.cell? ⟨E,0,none⟩=some (.int .i64 x.number):=ao.at_ 0;have x1:w4.cell? ⟨E,1,none⟩=some (.string x.too):=ao.at_ 1;have x2:w4.cell? ⟨E,2,none⟩=some (.string x.by_):=ao.at_ 2;have x3:w4.cell? ⟨E,3,none⟩=some (.slice (some ⟨b1x,0,none⟩) x.rule.verbs.length x.rule.verbs.length):=ao.at_ 3;have x4:w4.cell? ⟨E,4,none⟩=some (.string x.rule.kind):=ao.at_ 4;have x5:w4.cell? ⟨E,5,none⟩=some (.string x.rule.team):=ao.at_ 5;have x6:w4.cell? ⟨E,6,none⟩=some (.string x.rule.pre):=ao.at_ 6;clear ao bD;go_wp2_with fail
       refine(ey.out w4 HK.out).mono ?_;rintro e w7 ⟨rfl,rfl⟩;clear yz y0 y1 y2 y3 y4 y5 y6 ez x0 x1 x2 x3 x4 x5 x6;cases b1
       ·obtain⟨aS,bD,ao⟩:=iO.out w4 HK.out;obtain⟨yz,y0,y1,y2,y3,y4,y5,y6⟩:=aS;have ez:=ao.lt;have x0:w4.cell? ⟨E,0,none⟩=some (.int .i64 x.number):=ao.at_ 0;have x1:w4.cell? ⟨E,1,none⟩=some (.string x.too):=ao.at_ 1;have x2:w4.cell? ⟨E,2,none⟩=some (.string x.by_):=ao.at_ 2;have x3:w4.cell? ⟨E,3,none⟩=some (.slice (some ⟨b1x,0,none⟩) x.rule.verbs.length x.rule.verbs.length):=ao.at_ 3;have x4:w4.cell? ⟨E,4,none⟩=some (.string x.rule.kind):=ao.at_ 4;have x5:w4.cell? ⟨E,5,none⟩=some (.string x.rule.team):=ao.at_ 5;have x6:w4.cell? ⟨E,6,none⟩=some (.string x.rule.pre):=ao.at_ 6;clear ao bD;go_wp2;go_ret;exact⟨Pl.ae (HF.out (by simp[he])).symm,aa aZ.out HK.out⟩
       ·obtain⟨aS,bD,ao⟩:=iO.out w4 HK.out;obtain⟨yz,y0,y1,y2,y3,y4,y5,y6⟩:=aS;have ez:=ao.lt;have x0:w4.cell? ⟨E,0,none⟩=some (.int .i64 x.number):=ao.at_ 0;have x1:w4.cell? ⟨E,1,none⟩=some (.string x.too):=ao.at_ 1;have x2:w4.cell? ⟨E,2,none⟩=some (.string x.by_):=ao.at_ 2;have x3:w4.cell? ⟨E,3,none⟩=some (.slice (some ⟨b1x,0,none⟩) x.rule.verbs.length x.rule.verbs.length):=ao.at_ 3;have x4:w4.cell? ⟨E,4,none⟩=some (.string x.rule.kind):=ao.at_ 4;have x5:w4.cell? ⟨E,5,none⟩=some (.string x.rule.team):=ao.at_ 5;have x6:w4.cell? ⟨E,6,none⟩=some (.string x.rule.pre):=ao.at_ 6;clear ao bD;go_wp2_with fail
        refine(gh.out w4 HK.out).mono ?_;rintro e w7 ⟨rfl,rfl⟩;clear yz y0 y1 y2 y3 y4 y5 y6 ez x0 x1 x2 x3 x4 x5 x6;cases b2
        ·obtain⟨aS,bD,ao⟩:=iO.out w4 HK.out;obtain⟨yz,y0,y1,y2,y3,y4,y5,y6⟩:=aS;have ez:=ao.lt;have x0:w4.cell? ⟨E,0,none⟩=some (.int .i64 x.number):=ao.at_ 0;have x1:w4.cell? ⟨E,1,none⟩=some (.string x.too):=ao.at_ 1;have x2:w4.cell? ⟨E,2,none⟩=some (.string x.by_):=ao.at_ 2;have x3:w4.cell? ⟨E,3,none⟩=some (.slice (some ⟨b1x,0,none⟩) x.rule.verbs.length x.rule.verbs.length):=ao.at_ 3;have x4:w4.cell? ⟨E,4,none⟩=some (.string x.rule.kind):=ao.at_ 4;have x5:w4.cell? ⟨E,5,none⟩=some (.string x.rule.team):=ao.at_ 5;have x6:w4.cell? ⟨E,6,none⟩=some (.string x.rule.pre):=ao.at_ 6;clear ao bD;go_wp2;go_ret;exact⟨Pl.ae (HF.out (by simp[he])).symm,aa aZ.out HK.out⟩
        ·obtain⟨aS,bD,ao⟩:=iO.out w4 HK.out;obtain⟨yz,y0,y1,y2,y3,y4,y5,y6⟩:=aS;have ez:=ao.lt;have x0:w4.cell? ⟨E,0,none⟩=some (.int .i64 x.number):=ao.at_ 0;have x1:w4.cell? ⟨E,1,none⟩=some (.string x.too):=ao.at_ 1;have x2:w4.cell? ⟨E,2,none⟩=some (.string x.by_):=ao.at_ 2;have x3:w4.cell? ⟨E,3,none⟩=some (.slice (some ⟨b1x,0,none⟩) x.rule.verbs.length x.rule.verbs.length):=ao.at_ 3;have x4:w4.cell? ⟨E,4,none⟩=some (.string x.rule.kind):=ao.at_ 4;have x5:w4.cell? ⟨E,5,none⟩=some (.string x.rule.team):=ao.at_ 5;have x6:w4.cell? ⟨E,6,none⟩=some (.string x.rule.pre):=ao.at_ 6;clear ao bD;go_wp2_with fail
         refine(eY.out w4 HK.out).mono ?_;rintro e ky ⟨rfl,mO⟩;have iI:=aa HK.out mO;clear HK;have HK:Hid (Bel w4 ky):=iI;clear iI mO;clear yz y0 y1 y2 y3 y4 y5 y6 ez x0 x1 x2 x3 x4 x5 x6;cases b4
         ·obtain⟨aS,bD,ao⟩:=iO.out ky HK.out;obtain⟨yz,y0,y1,y2,y3,y4,y5,y6⟩:=aS;have ez:=ao.lt;have x0:ky.cell? ⟨E,0,none⟩=some (.int .i64 x.number):=ao.at_ 0;have x1:ky.cell? ⟨E,1,none⟩=some (.string x.too):=ao.at_ 1;have x2:ky.cell? ⟨E,2,none⟩=some (.string x.by_):=ao.at_ 2;have x3:ky.cell? ⟨E,3,none⟩=some (.slice (some ⟨b1x,0,none⟩) x.rule.verbs.length x.rule.verbs.length):=ao.at_ 3;have x4:ky.cell? ⟨E,4,none⟩=some (.string x.rule.kind):=ao.at_ 4;have x5:ky.cell? ⟨E,5,none⟩=some (.string x.rule.team):=ao.at_ 5;have x6:ky.cell? ⟨E,6,none⟩=some (.string x.rule.pre):=ao.at_ 6;clear ao bD;go_wp2;go_ret;exact⟨Pl.ae (HF.out (by simp[he])).symm,aa aZ.out HK.out⟩
         ·obtain⟨aS,bD,ao⟩:=iO.out ky HK.out;obtain⟨yz,y0,y1,y2,y3,y4,y5,y6⟩:=aS;have ez:=ao.lt;have x0:ky.cell? ⟨E,0,none⟩=some (.int .i64 x.number):=ao.at_ 0;have x1:ky.cell? ⟨E,1,none⟩=some (.string x.too):=ao.at_ 1;have x2:ky.cell? ⟨E,2,none⟩=some (.string x.by_):=ao.at_ 2;have x3:ky.cell? ⟨E,3,none⟩=some (.slice (some ⟨b1x,0,none⟩) x.rule.verbs.length x.rule.verbs.length):=ao.at_ 3;have x4:ky.cell? ⟨E,4,none⟩=some (.string x.rule.kind):=ao.at_ 4;have x5:ky.cell? ⟨E,5,none⟩=some (.string x.rule.team):=ao.at_ 5;have x6:ky.cell? ⟨E,6,none⟩=some (.string x.rule.pre):=ao.at_ 6;clear ao bD;go_wp2;go_roundw
          case rel=>exact⟨q+1,by omega,by go_num,HT.out (by simp[he]),aa js.out HK.out⟩
          case measure=>simp[intOf];omega
     ·obtain⟨aS,bD,ao⟩:=iO.out w4 HK.out;obtain⟨yz,y0,y1,y2,y3,y4,y5,y6⟩:=aS;have ez:=ao.lt;have x0:w4.cell? ⟨E,0,none⟩=some (.int .i64 x.number):=ao.at_ 0;have x1:w4.cell? ⟨E,1,none⟩=some (.string x.too):=ao.at_ 1;have x2:w4.cell? ⟨E,2,none⟩=some (.string x.by_):=ao.at_ 2;have x3:w4.cell? ⟨E,3,none⟩=some (.slice (some ⟨b1x,0,none⟩) x.rule.verbs.length x.rule.verbs.length):=ao.at_ 3;have x4:w4.cell? ⟨E,4,none⟩=some (.string x.rule.kind):=ao.at_ 4;have x5:w4.cell? ⟨E,5,none⟩=some (.string x.rule.team):=ao.at_ 5;have x6:w4.cell? ⟨E,6,none⟩=some (.string x.rule.pre):=ao.at_ 6;clear ao bD;go_wp2_with fail
      refine(ey.out w4 HK.out).mono ?_;rintro e w7 ⟨rfl,rfl⟩;clear yz y0 y1 y2 y3 y4 y5 y6 ez x0 x1 x2 x3 x4 x5 x6;cases b1
      ·obtain⟨aS,bD,ao⟩:=iO.out w4 HK.out;obtain⟨yz,y0,y1,y2,y3,y4,y5,y6⟩:=aS;have ez:=ao.lt;have x0:w4.cell? ⟨E,0,none⟩=some (.int .i64 x.number):=ao.at_ 0;have x1:w4.cell? ⟨E,1,none⟩=some (.string x.too):=ao.at_ 1;have x2:w4.cell? ⟨E,2,none⟩=some (.string x.by_):=ao.at_ 2;have x3:w4.cell? ⟨E,3,none⟩=some (.slice (some ⟨b1x,0,none⟩) x.rule.verbs.length x.rule.verbs.length):=ao.at_ 3;have x4:w4.cell? ⟨E,4,none⟩=some (.string x.rule.kind):=ao.at_ 4;have x5:w4.cell? ⟨E,5,none⟩=some (.string x.rule.team):=ao.at_ 5;have x6:w4.cell? ⟨E,6,none⟩=some (.string x.rule.pre):=ao.at_ 6;clear ao bD;go_wp2;go_ret;exact⟨Pl.ae (HF.out (by simp[he])).symm,aa aZ.out HK.out⟩
      ·obtain⟨aS,bD,ao⟩:=iO.out w4 HK.out;obtain⟨yz,y0,y1,y2,y3,y4,y5,y6⟩:=aS;have ez:=ao.lt;have x0:w4.cell? ⟨E,0,none⟩=some (.int .i64 x.number):=ao.at_ 0;have x1:w4.cell? ⟨E,1,none⟩=some (.string x.too):=ao.at_ 1;have x2:w4.cell? ⟨E,2,none⟩=some (.string x.by_):=ao.at_ 2;have x3:w4.cell? ⟨E,3,none⟩=some (.slice (some ⟨b1x,0,none⟩) x.rule.verbs.length x.rule.verbs.length):=ao.at_ 3;have x4:w4.cell? ⟨E,4,none⟩=some (.string x.rule.kind):=ao.at_ 4;have x5:w4.cell? ⟨E,5,none⟩=some (.string x.rule.team):=ao.at_ 5;have x6:w4.cell? ⟨E,6,none⟩=some (.string x.rule.pre):=ao.at_ 6;clear ao bD;go_wp2_with fail
       refine(gh.out w4 HK.out).mono ?_;rintro e w7 ⟨rfl,rfl⟩;clear yz y0 y1 y2 y3 y4 y5 y6 ez x0 x1 x2 x3 x4 x5 x6;cases b2
       ·obtain⟨aS,bD,ao⟩:=iO.out w4 HK.out;obtain⟨yz,y0,y1,y2,y3,y4,y5,y6⟩:=aS;have ez:=ao.lt;have x0:w4.cell? ⟨E,0,none⟩=some (.int .i64 x.number):=ao.at_ 0;have x1:w4.cell? ⟨E,1,none⟩=some (.string x.too):=ao.at_ 1;have x2:w4.cell? ⟨E,2,none⟩=some (.string x.by_):=ao.at_ 2;have x3:w4.cell? ⟨E,3,none⟩=some (.slice (some ⟨b1x,0,none⟩) x.rule.verbs.length x.rule.verbs.length):=ao.at_ 3;have x4:w4.cell? ⟨E,4,none⟩=some (.string x.rule.kind):=ao.at_ 4;have x5:w4.cell? ⟨E,5,none⟩=some (.string x.rule.team):=ao.at_ 5;have x6:w4.cell? ⟨E,6,none⟩=some (.string x.rule.pre):=ao.at_ 6;clear ao bD;go_wp2;go_ret;exact⟨Pl.ae (HF.out (by simp[he])).symm,aa aZ.out HK.out⟩
       ·obtain⟨aS,bD,ao⟩:=iO.out w4 HK.out;obtain⟨yz,y0,y1,y2,y3,y4,y5,y6⟩:=aS;have ez:=ao.lt;have x0:w4.cell? ⟨E,0,none⟩=some (.int .i64 x.number):=ao.at_ 0;have x1:w4.cell? ⟨E,1,none⟩=some (.string x.too):=ao.at_ 1;have x2:w4.cell? ⟨E,2,none⟩=some (.string x.by_):=ao.at_ 2;have x3:w4.cell? ⟨E,3,none⟩=some (.slice (some ⟨b1x,0,none⟩) x.rule.verbs.length x.rule.verbs.length):=ao.at_ 3;have x4:w4.cell? ⟨E,4,none⟩=some (.string x.rule.kind):=ao.at_ 4;have x5:w4.cell? ⟨E,5,none⟩=some (.string x.rule.team):=ao.at_ 5;have x6:w4.cell? ⟨E,6,none⟩=some (.string x.rule.pre):=ao.at_ 6;clear ao bD;go_wp2_with fail
        refine(eY.out w4 HK.out).mono ?_;rintro e ky ⟨rfl,mO⟩;have iI:=aa HK.out mO;clear HK;have HK:Hid (Bel w4 ky):=iI;clear iI mO;clear yz y0 y1 y2 y3 y4 y5 y6 ez x0 x1 x2 x3 x4 x5 x6;cases b4
        ·obtain⟨aS,bD,ao⟩:=iO.out ky HK.out;obtain⟨yz,y0,y1,y2,y3,y4,y5,y6⟩:=aS;have ez:=ao.lt;have x0:ky.cell? ⟨E,0,none⟩=some (.int .i64 x.number):=ao.at_ 0;have x1:ky.cell? ⟨E,1,none⟩=some (.string x.too):=ao.at_ 1;have x2:ky.cell? ⟨E,2,none⟩=some (.string x.by_):=ao.at_ 2;have x3:ky.cell? ⟨E,3,none⟩=some (.slice (some ⟨b1x,0,none⟩) x.rule.verbs.length x.rule.verbs.length):=ao.at_ 3;have x4:ky.cell? ⟨E,4,none⟩=some (.string x.rule.kind):=ao.at_ 4;have x5:ky.cell? ⟨E,5,none⟩=some (.string x.rule.team):=ao.at_ 5;have x6:ky.cell? ⟨E,6,none⟩=some (.string x.rule.pre):=ao.at_ 6;clear ao bD;go_wp2;go_ret;exact⟨Pl.ae (HF.out (by simp[he])).symm,aa aZ.out HK.out⟩
        ·obtain⟨aS,bD,ao⟩:=iO.out ky HK.out;obtain⟨yz,y0,y1,y2,y3,y4,y5,y6⟩:=aS;have ez:=ao.lt;have x0:ky.cell? ⟨E,0,none⟩=some (.int .i64 x.number):=ao.at_ 0;have x1:ky.cell? ⟨E,1,none⟩=some (.string x.too):=ao.at_ 1;have x2:ky.cell? ⟨E,2,none⟩=some (.string x.by_):=ao.at_ 2;have x3:ky.cell? ⟨E,3,none⟩=some (.slice (some ⟨b1x,0,none⟩) x.rule.verbs.length x.rule.verbs.length):=ao.at_ 3;have x4:ky.cell? ⟨E,4,none⟩=some (.string x.rule.kind):=ao.at_ 4;have x5:ky.cell? ⟨E,5,none⟩=some (.string x.rule.team):=ao.at_ 5;have x6:ky.cell? ⟨E,6,none⟩=some (.string x.rule.pre):=ao.at_ 6;clear ao bD;go_wp2;go_roundw
         case rel=>exact⟨q+1,by omega,by go_num,HT.out (by simp[he]),aa js.out HK.out⟩
         case measure=>simp[intOf];omega
    ·have HE:Hid (R=true):=by
      show R=true;rw[mm.out];obtain rfl:q=K.grants.length:=by omega
      exact HQ.out
     go_wp2;go_ret;exact⟨Pl.ae HE.out.symm,fw.out⟩
 ·have HE:Hid (R=false):=by show _=_;rw[HR.out];simp[hlen]
  go_wp2;go_ret;exact⟨Pl.ae HE.out.symm,cQ.out⟩
theorem zM (K:Bk) (e0 e1 e2 e3:Nat) (w:World):
  Calls Tryz.prog 37 #[.agg #[.int .i64 K.now,.int .i64 K.tick,.int .i64 K.given,.slice (some ⟨e0,0,none⟩) K.objects.length K.objects.length,.slice (some ⟨e1,0,none⟩) K.grants.length K.grants.length,.slice (some ⟨e2,0,none⟩) K.ledgers.length K.ledgers.length,.slice (some ⟨e3,0,none⟩) K.purses.length K.purses.length]] w fun e w'=>e=.returned (.bool (gP K))∧Bel w w':=by
 obtain⟨wa,ch⟩:∃ wa,wa=w.alloc (.cells #[.int .i64 K.now,.int .i64 K.tick,.int .i64 K.given,.slice (some ⟨e0,0,none⟩) K.objects.length K.objects.length,.slice (some ⟨e1,0,none⟩) K.grants.length K.grants.length,.slice (some ⟨e2,0,none⟩) K.ledgers.length K.ledgers.length,.slice (some ⟨e3,0,none⟩) K.purses.length K.purses.length] 47):=⟨_,rfl⟩
 have cz:Hid (Bel w wa):=by show Below _ _ _;rw[ch];exact ab br _
 have eZ:Hid (bd wa w.heap.size (.int .i64 K.now) (.int .i64 K.tick) (.int .i64 K.given) (.slice (some ⟨e0,0,none⟩) K.objects.length K.objects.length) (.slice (some ⟨e1,0,none⟩) K.grants.length K.grants.length) (.slice (some ⟨e2,0,none⟩) K.ledgers.length K.ledgers.length) (.slice (some ⟨e3,0,none⟩) K.purses.length K.purses.length)):=by show bd _ _ _ _ _ _ _ _ _;rw[ch];exact bd.bp w _ _ _ _ _ _ _ _ _ rfl
 obtain⟨b1,h1⟩:∃ b,b=within K.now 0 1000000:=⟨_,rfl⟩
 obtain⟨b2,h2⟩:∃ b,b=within K.tick 0 1000000:=⟨_,rfl⟩
 obtain⟨b3,h3⟩:∃ b,b=within K.given 0 K.now:=⟨_,rfl⟩
 have H1:Hid (∀ W,Calls Tryz.prog 83 #[.int .i64 K.now,.int .i64 0,.int .i64 1000000] W fun e w'=>e=.returned (.bool b1)∧W=w'):=fun W=>by rw[h1];exact hU _ _ _ W
 have H2:Hid (∀ W,Calls Tryz.prog 83 #[.int .i64 K.tick,.int .i64 0,.int .i64 1000000] W fun e w'=>e=.returned (.bool b2)∧W=w'):=fun W=>by rw[h2];exact hU _ _ _ W
 have H3:Hid (∀ W,Calls Tryz.prog 83 #[.int .i64 K.given,.int .i64 0,.int .i64 K.now] W fun e w'=>e=.returned (.bool b3)∧W=w'):=fun W=>by rw[h3];exact hU _ _ _ W
 have HT:Hid (gP K=(b1&&b2&&b3)):=by show _=_;unfold gP;rw[h1,h2,h3]
 rw[HT.out];clear h1 h2 h3 HT;go_enter Tryz.func37,Tryz.ntmps37
 go_upto_region 1 with fail
 rw[← ch];clear ch;obtain⟨yz,y0,y1,y2,y3,y4,y5,y6⟩:=eZ.out;go_wp2_with fail
 refine(H1.out _).mono ?_;rintro e w7 ⟨rfl,rfl⟩;cases b1
 ·go_wp2;go_ret;exact⟨rfl,cz.out⟩
 ·go_wp2_with fail
  refine(H2.out _).mono ?_;rintro e w7 ⟨rfl,rfl⟩;cases b2
  ·go_wp2;go_ret;exact⟨rfl,cz.out⟩
  ·go_wp2_with fail
   refine(H3.out _).mono ?_;rintro e w7 ⟨rfl,rfl⟩;go_wp2;go_ret;exact⟨by simp,cz.out⟩
end Go.Proofs.YtbiokpmdghmgcaaGreat
