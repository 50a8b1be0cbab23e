import Derived.Test.YtbiokpmdghmgcaaGreatWalkX
import Derived.Test.YtbiokpmdghmgcaaGreatWalkAF
namespace Go.Proofs.YtbiokpmdghmgcaaGreat
set_option maxHeartbeats 40000000
open Go.RowKit Go.Deep
theorem AW (f:Fld) (b:Nat) (w:World) (hs:f.small) (h1:(f.kind==1)=false) (h2:(f.kind==2)=false) (h3:(f.kind==3)=false) (h4:(f.kind==4)=false):
  Calls Tryz.prog 194 #[.agg #[.string f.nm,.int .i64 f.kind,.int .i64 f.least,.int .i64 f.most,.slice (some ⟨b,0,none⟩) f.words.length f.words.length,.string f.to,.int .i64 f.role,.bool f.must,.bool f.fixed,.string f.de,.string f.we]] w fun e w'=>(∃ r:Bool,e=.returned (.bool r))∧Bel w w':=by
 have yY:f.words.length≤1048576:=hs;have g1:(f.kind !=1)=true:=by simp[bne,h1]
 have g2:(f.kind !=2)=true:=by simp[bne,h2]
 clear hs;go_enter Tryz.func194,Tryz.ntmps194
 go_wp2
 all_goals go_ret
 all_goals exact⟨⟨_,rfl⟩,ab br _⟩
theorem tZ (f:Fld) (b:Nat) (v:Value) (ss:List Shp) (w:World) (hp:eE w b f) (h1:(f.kind==1)=false) (h2:(f.kind==2)=false) (h3:(f.kind==3)=false) (h4:(f.kind==4)=false):
  Calls Tryz.prog 161 #[v,.agg #[.string f.nm,.int .i64 f.kind,.int .i64 f.least,.int .i64 f.most,.slice (some ⟨b,0,none⟩) f.words.length f.words.length,.string f.to,.int .i64 f.role,.bool f.must,.bool f.fixed,.string f.de,.string f.we]] w fun e w'=>e=.returned (.bool (Pl.aq f.nm&&aD ss f))∧Bel w w':=by
 have HP:=hid hp;have qD:aD ss f=false:=by
  simp only[beq_eq_false_iff_ne,ne_eq]at h1 h2 h3 h4;have:isKind f.kind=false:=by rw[Bool.eq_false_iff];simp[isKind];omega
  simp[aD,this]
 have cz:=hid fun (W:World)=>AW f b W HP.out.small h1 h2 h3 h4;have iN:Hid (∀ W,Bel w W→Calls Tryz.prog 120 #[.agg #[.string f.nm,.int .i64 f.kind,.int .i64 f.least,.int .i64 f.most,.slice (some ⟨b,0,none⟩) f.words.length f.words.length,.string f.to,.int .i64 f.role,.bool f.must,.bool f.fixed,.string f.de,.string f.we],.string f.de] W fun e w'=>e=.returned (.bool (dC f f.de))∧Bel W w'):=by
  intro W hW;have Q:=HP.out.later hW;exact eQ f.nm f.kind f.least f.most b 0 f.words.length f.to f.role f.must f.fixed f.de f.we f.de f.words W Q.sized.2.2.1 Q.lt (by have:f.words.length≤1048576:=Q.small;unfold maxLen;omega) Q.cells
 have hR:(Pl.aq f.nm&&aD ss f)=false:=by rw[qD];simp
 rw[hR];have HN:=hid HP.out.sized.1;clear hp qD hR HP;cases hnm:Pl.aq f.nm
 ·go_enter Tryz.func161,Tryz.ntmps161
  go_wp2_with (go_at_call 68;refine(aG _ _ HN.out).mono ?_;rintro e w' ⟨rfl,rfl⟩)
  go_ret;exact⟨rfl,ab br _⟩
 go_enter Tryz.func161,Tryz.ntmps161
 go_wp2_with (go_at_call 68;refine(aG _ _ HN.out).mono ?_;rintro e w' ⟨rfl,rfl⟩)
 refine(cz.out _).mono ?_;rintro e w2 ⟨⟨r,rfl⟩,aA⟩;have bE:=aa (ab (Below.refl w.heap.size w) (.cells #[.string f.nm,.int .i64 f.kind,.int .i64 f.least,.int .i64 f.most,.slice (some ⟨b,0,none⟩) f.words.length f.words.length,.string f.to,.int .i64 f.role,.bool f.must,.bool f.fixed,.string f.de,.string f.we] 122)) aA;have k2:∀ o,w2.cell? ⟨w.heap.size,o,none⟩=(w.alloc (.cells #[.string f.nm,.int .i64 f.kind,.int .i64 f.least,.int .i64 f.most,.slice (some ⟨b,0,none⟩) f.words.length f.words.length,.string f.to,.int .i64 f.role,.bool f.must,.bool f.fixed,.string f.de,.string f.we] 122)).cell? ⟨w.heap.size,o,none⟩:=fun o=>aA.cell (p:=⟨w.heap.size,o,none⟩) (by simp);have z2:w.heap.size<w2.heap.size:=by have:=aA.size;simp at this;omega
 clear aA cz HN;cases r
 ·go_wp2;go_ret;exact⟨rfl,bE⟩
 cases hem:f.de.toList.isEmpty
 ·cases dP:dC f f.de
  all_goals
   go_wp2_with fail
   refine(iN.out _ bE).mono ?_;rintro e w3 ⟨rfl,aO⟩;have eX:=aa bE aO;have k3:∀ o,w3.cell? ⟨w.heap.size,o,none⟩=(w.alloc (.cells #[.string f.nm,.int .i64 f.kind,.int .i64 f.least,.int .i64 f.most,.slice (some ⟨b,0,none⟩) f.words.length f.words.length,.string f.to,.int .i64 f.role,.bool f.must,.bool f.fixed,.string f.de,.string f.we] 122)).cell? ⟨w.heap.size,o,none⟩:=fun o=>(aO.cell (p:=⟨w.heap.size,o,none⟩) z2).trans (k2 o);clear aO k2 iN bE z2;go_wp2;go_ret;exact⟨rfl,eX⟩
 ·go_wp2;go_ret;exact⟨rfl,bE⟩
theorem sy (f:Fld) (b B:Nat) (ss:List Shp) (w:World) (h:bh w B ss) (hp:eE w b f):
  Calls Tryz.prog 161 #[.slice (some ⟨B,0,none⟩) ss.length ss.length,.agg #[.string f.nm,.int .i64 f.kind,.int .i64 f.least,.int .i64 f.most,.slice (some ⟨b,0,none⟩) f.words.length f.words.length,.string f.to,.int .i64 f.role,.bool f.must,.bool f.fixed,.string f.de,.string f.we]] w fun e w'=>e=.returned (.bool (Pl.aq f.nm&&aD ss f))∧Bel w w':=by
 by_cases h1:f.kind=1
 ·have:=vf f b B ss w h1 h hp;rw[← h1]at this;exact this
 by_cases h2:f.kind=2
 ·have:=uQ f b B ss w h2 h hp;rw[← h2]at this;exact this
 by_cases h3:f.kind=3
 ·have:=ue f b B ss w h3 h hp;rw[← h3]at this;exact this
 by_cases h4:f.kind=4
 ·have:=uk f b B ss w h4 h hp;rw[← h4]at this;exact this
 exact tZ f b _ ss w hp (by simp[h1]) (by simp[h2]) (by simp[h3]) (by simp[h4])
theorem yl (B:Nat) (ss:List Shp) (w:World) (h:bh w B ss):
  Calls Tryz.prog 115 #[.slice (some ⟨B,0,none⟩) ss.length ss.length] w fun e w'=>e=.returned (.bool (aN ss))∧Bel w w':=by
 have HS:=hid h;have hl:=h.len;clear h;by_cases h6:ss.length≤6
 case neg=>
  have HR:Hid (aN ss=false):=by show _=_;simp[aN,h6]
  go_enter Tryz.func115,Tryz.ntmps115
  go_wp2;go_ret;exact⟨Pl.ae HR.out.symm,br⟩
 go_enter Tryz.func115,Tryz.ntmps115
 go_wp2;go_loopw [3] (fun i wr=>∃ k:Nat,k≤ss.length∧i=.int .i64 k∧fJ ss k=true∧Bel w wr) (fun i _=>ss.length - (intOf i).toNat)
 case atStart=>exact⟨0,nz,rfl,rfl,br⟩
 case round=>
  obtain⟨k,hk,rfl,aw,hW⟩:=hrel;obtain⟨wo,rfl⟩:∃ wo:World,wo=wr:=⟨_,rfl⟩
  have HA:=hid aw;clear aw;by_cases av:k<ss.length
  ·obtain⟨s,j6⟩:∃ s,s=ss.getD k Shp.none:=⟨_,rfl⟩
   obtain⟨b,ea,Jv,c0,c1⟩:=(HS.out.later hW).uV av j6;have HN:=hid Jv;have pz:=hid ea;have hsl:=ea.len;clear Jv ea;have cC:Bel wo (wo.alloc (.cells #[.string s.kind,.slice (some ⟨b,0,none⟩) s.fields.length s.fields.length] 134)):=ab br _;by_cases h0:k=0
   ·subst h0;have HT:Hid (eP ss 0=(Pl.aq s.kind&&aH ss s.fields)):=by show _=_;rw[j6];simp[eP]
    clear j6;cases hn:Pl.aq s.kind
    ·have HR:=hid (bj av (by rw[HT.out,hn];rfl));go_wp2_with fail
     go_quiet ((go_at_call 68;exact Calls.quiet_of_same (cD _ _ HN.out)))
     go_wp2;go_ret;exact⟨Pl.ae HR.out.symm,al (aa hW cC) _⟩
    ·by_cases h6f:s.fields.length≤6
     case neg=>
      have Kn:decide ((6:Int)<(s.fields.length:Int))=true:=by simp;omega
      have HR:=hid (bj av (by rw[HT.out];simp[aH,h6f]));go_wp2_with fail
      go_quiet ((go_at_call 68;exact Calls.quiet_of_same (cD _ _ HN.out)))
      go_wp2;go_ret;exact⟨Pl.ae HR.out.symm,al (aa hW cC) _⟩
     have Kn:decide ((6:Int)<(s.fields.length:Int))=false:=by simp;omega
     go_wp2_with fail
     go_quiet ((go_at_call 68;exact Calls.quiet_of_same (cD _ _ HN.out)))
     go_wp2;have K3:=hid hn;clear hn Kn;go_loopw [5] (fun i wr=>∃ q:Nat,q≤s.fields.length∧i=.int .i64 q∧fp ss s.fields q=true∧Bel wo wr∧wo.heap.size<wr.heap.size∧∀ o,wr.cell? ⟨wo.heap.size,o,none⟩=(wo.alloc (.cells #[.string s.kind,.slice (some ⟨b,0,none⟩) s.fields.length s.fields.length] 134)).cell? ⟨wo.heap.size,o,none⟩) (fun i _=>s.fields.length - (intOf i).toNat)
     case atStart=>exact⟨0,nz,rfl,rfl,al cC _,by show wo.heap.size<(wo.alloc (.cells #[.string s.kind,.slice (some ⟨b,0,none⟩) s.fields.length s.fields.length] 134)).heap.size;simp,fun o=>rfl⟩
     case round=>
      obtain⟨q,hq,rfl,KG,hM,hz,kM⟩:=hrel;have HQ:=hid KG;clear KG;by_cases hqlt:q<s.fields.length
      ·obtain⟨f,fH⟩:∃ f,f=s.fields.getD q Fld.none:=⟨_,rfl⟩
       obtain⟨b2,pT,dP⟩:=(pz.out.later hM).arg hqlt fH;have yV:Hid (fieldAt ss s.fields q=(Pl.aq f.nm&&aD ss f&& !decide (nameAt s.fields f.nm<q))):=by
        show fieldAt ss s.fields q=_;rw[fieldAt,lW s.fields q hqlt,← fH]
       have HX:Hid (Calls Tryz.prog 161 #[.slice (some ⟨B,0,none⟩) ss.length ss.length,.agg #[.string f.nm,.int .i64 f.kind,.int .i64 f.least,.int .i64 f.most,.slice (some ⟨b2,0,none⟩) f.words.length f.words.length,.string f.to,.int .i64 f.role,.bool f.must,.bool f.fixed,.string f.de,.string f.we]] wr fun e w'=>e=.returned (.bool (Pl.aq f.nm&&aD ss f))∧Bel wr w'):=
        sy f b2 B ss wr ((HS.out.later hW).later hM) pT
       have zc:=hid fH;obtain⟨c0,c1,c2,c3,c4,c5,c6,c7,c8,c9,c10,_,_⟩:=dP;clear fH pT;go_wp2_with fail
       refine HX.out.mono ?_;rintro e w2 ⟨rfl,aA⟩;have Kx:=aa hM aA;have gX:=lo hz aA.size;have k2:∀ o,w2.cell? ⟨wo.heap.size,o,none⟩=(wo.alloc (.cells #[.string s.kind,.slice (some ⟨b,0,none⟩) s.fields.length s.fields.length] 134)).cell? ⟨wo.heap.size,o,none⟩:=fun o=>(aA.cell (p:=⟨wo.heap.size,o,none⟩) hz).trans (kM o);clear aA HX c0 c1 c2 c3 c4 c5 c6 c7 c8 c9 c10 kM hz hM;cases fN:(Pl.aq f.nm&&aD ss f)
       ·have HR:Hid (aN ss=false):=by
         have h1:aH ss s.fields=false:=dT hqlt (by rw[yV.out,fN];rfl);exact bj av (by rw[HT.out,h1];simp)
        go_wp2;go_ret;exact⟨Pl.ae HR.out.symm,aa hW Kx⟩
       ·go_wp2;go_loopw [6] (fun i wr=>∃ j:Nat,j≤q∧i=.int .i64 j∧j≤nameAt s.fields f.nm∧Bel wo wr∧wo.heap.size<wr.heap.size∧∀ o,wr.cell? ⟨wo.heap.size,o,none⟩=(wo.alloc (.cells #[.string s.kind,.slice (some ⟨b,0,none⟩) s.fields.length s.fields.length] 134)).cell? ⟨wo.heap.size,o,none⟩) (fun i _=>q - (intOf i).toNat)
        case atStart=>exact⟨0,nz,rfl,nz,Kx,gX,k2⟩
        case round=>
         obtain⟨j,hj,rfl,Jp,yK,xd,k3⟩:=hrel;have HJ:=hid Jp;clear Jp k2;by_cases hjq:j<q
         ·obtain⟨g,yN⟩:∃ g,g=s.fields.getD j Fld.none:=⟨_,rfl⟩
          obtain⟨b3,_,Jd⟩:=(pz.out.later yK).arg (by omega:j<s.fields.length) yN;obtain⟨b4,_,dP⟩:=(pz.out.later yK).arg hqlt zc.out;have g0:=Jd.c0;have f0:=dP.c0;clear Jd dP;cases heq:(g.nm.toList==f.nm.toList)
          ·have HM:=hid (iQ s.fields f.nm j (by omega) HJ.out (by rw[← yN];exact heq));clear yN;go_wp2_with fail
           go_quiet (fail)
           go_wp2;go_roundw
           case rel=>exact⟨j+1,by omega,by go_num,HM.out,al yK _,xd,k3⟩
           case measure=>simp[intOf];omega
          ·have HM:=hid (jP s.fields f.nm j (by omega) HJ.out (by rw[← yN];exact heq));have HR:Hid (aN ss=false):=by
            have h1:aH ss s.fields=false:=dT hqlt (by rw[yV.out,HM.out];simp[hjq]);exact bj av (by rw[HT.out,h1];simp)
           clear yN;go_wp2_with fail
           go_quiet (fail)
           go_wp2;go_ret;exact⟨Pl.ae HR.out.symm,aa hW (al yK _)⟩
         ·have HR:Hid (fp ss s.fields (q+1)=true):=by
           have DU:¬ nameAt s.fields f.nm<q:=by have:=HJ.out;omega
           exact jm HQ.out (by rw[yV.out,fN];simp[DU])
          go_wp2;go_roundw
          case rel=>first|exact⟨q+1,by omega,by go_num,HR.out,yK,xd,k3⟩|((repeat apply Exists.intro);exact⟨⟨q+1,by omega,by go_num,HR.out,yK,xd,k3⟩,rfl⟩)
          case measure=>simp[intOf];omega
      ·have HR:Hid (fJ ss (0+1)=true):=by
        obtain rfl:q=s.fields.length:=by omega
        have h1:aH ss s.fields=true:=by rw[aH,HQ.out];simp[h6f]
        exact gL HA.out (by rw[HT.out,K3.out,h1];rfl)
       go_wp2;go_roundw
       case rel=>first|exact⟨0+1,by omega,by go_num,HR.out,aa hW hM⟩|((repeat apply Exists.intro);exact⟨⟨0+1,by omega,by go_num,HR.out,aa hW hM⟩,rfl⟩)
       case measure=>simp[intOf];omega
   ·obtain⟨m,rfl⟩:∃ m,k=m+1:=⟨k - 1,by omega⟩
    obtain⟨p,tD⟩:∃ p,p=ss.getD m Shp.none:=⟨_,rfl⟩
    obtain⟨b',_,_,d0,_⟩:=(HS.out.later hW).uV (by omega:m<ss.length) tD;have HT:Hid (eP ss (m+1)=(Pl.aq s.kind&&Op.bytesLess p.kind.toList s.kind.toList&&aH ss s.fields)):=by show _=_;rw[j6,tD];simp[eP,Pl.less]
    have GN:=lo HS.out.lt hW.size;have EP:decide ((m:Int)+1<(ss.length:Int))=true:=by simp;omega
    clear j6 tD h0;cases hn:Pl.aq s.kind
    ·have HR:=hid (bj av (by rw[HT.out,hn];rfl));go_wp2_with fail
     go_quiet ((go_at_call 68;exact Calls.quiet_of_same (cD _ _ HN.out)))
     go_wp2;go_ret;exact⟨Pl.ae HR.out.symm,al (aa hW cC) _⟩
    ·cases hq:Op.bytesLess p.kind.toList s.kind.toList
     ·have HR:=hid (bj av (by rw[HT.out,hn,hq];rfl));go_wp2_with fail
      go_quiet ((go_at_call 68;exact Calls.quiet_of_same (cD _ _ HN.out)))
      go_wp2;go_ret;exact⟨Pl.ae HR.out.symm,al (aa hW cC) _⟩
     by_cases h6f:s.fields.length≤6
     case neg=>
      have Kn:decide ((6:Int)<(s.fields.length:Int))=true:=by simp;omega
      have HR:=hid (bj av (by rw[HT.out];simp[aH,h6f]));go_wp2_with fail
      go_quiet ((go_at_call 68;exact Calls.quiet_of_same (cD _ _ HN.out)))
      go_wp2;go_ret;exact⟨Pl.ae HR.out.symm,al (aa hW cC) _⟩
     have Kn:decide ((6:Int)<(s.fields.length:Int))=false:=by simp;omega
     go_wp2_with fail
     go_quiet ((go_at_call 68;exact Calls.quiet_of_same (cD _ _ HN.out)))
     go_wp2;have K3:=hid (And.intro hn hq);clear hn Kn hq d0;go_loopw [5] (fun i wr=>∃ q:Nat,q≤s.fields.length∧i=.int .i64 q∧fp ss s.fields q=true∧Bel wo wr∧wo.heap.size<wr.heap.size∧∀ o,wr.cell? ⟨wo.heap.size,o,none⟩=(wo.alloc (.cells #[.string s.kind,.slice (some ⟨b,0,none⟩) s.fields.length s.fields.length] 134)).cell? ⟨wo.heap.size,o,none⟩) (fun i _=>s.fields.length - (intOf i).toNat)
     case atStart=>exact⟨0,nz,rfl,rfl,al cC _,by show wo.heap.size<(wo.alloc (.cells #[.string s.kind,.slice (some ⟨b,0,none⟩) s.fields.length s.fields.length] 134)).heap.size;simp,fun o=>rfl⟩
     case round=>
      obtain⟨q,hq,rfl,KG,hM,hz,kM⟩:=hrel;have HQ:=hid KG;clear KG;by_cases hqlt:q<s.fields.length
      ·obtain⟨f,fH⟩:∃ f,f=s.fields.getD q Fld.none:=⟨_,rfl⟩
       obtain⟨b2,pT,dP⟩:=(pz.out.later hM).arg hqlt fH;have yV:Hid (fieldAt ss s.fields q=(Pl.aq f.nm&&aD ss f&& !decide (nameAt s.fields f.nm<q))):=by
        show fieldAt ss s.fields q=_;rw[fieldAt,lW s.fields q hqlt,← fH]
       have HX:Hid (Calls Tryz.prog 161 #[.slice (some ⟨B,0,none⟩) ss.length ss.length,.agg #[.string f.nm,.int .i64 f.kind,.int .i64 f.least,.int .i64 f.most,.slice (some ⟨b2,0,none⟩) f.words.length f.words.length,.string f.to,.int .i64 f.role,.bool f.must,.bool f.fixed,.string f.de,.string f.we]] wr fun e w'=>e=.returned (.bool (Pl.aq f.nm&&aD ss f))∧Bel wr w'):=
        sy f b2 B ss wr ((HS.out.later hW).later hM) pT
       have zc:=hid fH;obtain⟨c0,c1,c2,c3,c4,c5,c6,c7,c8,c9,c10,_,_⟩:=dP;clear fH pT;go_wp2_with fail
       refine HX.out.mono ?_;rintro e w2 ⟨rfl,aA⟩;have Kx:=aa hM aA;have gX:=lo hz aA.size;have k2:∀ o,w2.cell? ⟨wo.heap.size,o,none⟩=(wo.alloc (.cells #[.string s.kind,.slice (some ⟨b,0,none⟩) s.fields.length s.fields.length] 134)).cell? ⟨wo.heap.size,o,none⟩:=fun o=>(aA.cell (p:=⟨wo.heap.size,o,none⟩) hz).trans (kM o);clear aA HX c0 c1 c2 c3 c4 c5 c6 c7 c8 c9 c10 kM hz hM;cases fN:(Pl.aq f.nm&&aD ss f)
       ·have HR:Hid (aN ss=false):=by
         have h1:aH ss s.fields=false:=dT hqlt (by rw[yV.out,fN];rfl);exact bj av (by rw[HT.out,h1];simp)
        go_wp2;go_ret;exact⟨Pl.ae HR.out.symm,aa hW Kx⟩
       ·go_wp2;go_loopw [6] (fun i wr=>∃ j:Nat,j≤q∧i=.int .i64 j∧j≤nameAt s.fields f.nm∧Bel wo wr∧wo.heap.size<wr.heap.size∧∀ o,wr.cell? ⟨wo.heap.size,o,none⟩=(wo.alloc (.cells #[.string s.kind,.slice (some ⟨b,0,none⟩) s.fields.length s.fields.length] 134)).cell? ⟨wo.heap.size,o,none⟩) (fun i _=>q - (intOf i).toNat)
        case atStart=>exact⟨0,nz,rfl,nz,Kx,gX,k2⟩
        case round=>
         obtain⟨j,hj,rfl,Jp,yK,xd,k3⟩:=hrel;have HJ:=hid Jp;clear Jp k2;by_cases hjq:j<q
         ·obtain⟨g,yN⟩:∃ g,g=s.fields.getD j Fld.none:=⟨_,rfl⟩
          obtain⟨b3,_,Jd⟩:=(pz.out.later yK).arg (by omega:j<s.fields.length) yN;obtain⟨b4,_,dP⟩:=(pz.out.later yK).arg hqlt zc.out;have g0:=Jd.c0;have f0:=dP.c0;clear Jd dP;cases heq:(g.nm.toList==f.nm.toList)
          ·have HM:=hid (iQ s.fields f.nm j (by omega) HJ.out (by rw[← yN];exact heq));clear yN;go_wp2_with fail
           go_quiet (fail)
           go_wp2;go_roundw
           case rel=>exact⟨j+1,by omega,by go_num,HM.out,al yK _,xd,k3⟩
           case measure=>simp[intOf];omega
          ·have HM:=hid (jP s.fields f.nm j (by omega) HJ.out (by rw[← yN];exact heq));have HR:Hid (aN ss=false):=by
            have h1:aH ss s.fields=false:=dT hqlt (by rw[yV.out,HM.out];simp[hjq]);exact bj av (by rw[HT.out,h1];simp)
           clear yN;go_wp2_with fail
           go_quiet (fail)
           go_wp2;go_ret;exact⟨Pl.ae HR.out.symm,aa hW (al yK _)⟩
         ·have HR:Hid (fp ss s.fields (q+1)=true):=by
           have DU:¬ nameAt s.fields f.nm<q:=by have:=HJ.out;omega
           exact jm HQ.out (by rw[yV.out,fN];simp[DU])
          go_wp2;go_roundw
          case rel=>first|exact⟨q+1,by omega,by go_num,HR.out,yK,xd,k3⟩|((repeat apply Exists.intro);exact⟨⟨q+1,by omega,by go_num,HR.out,yK,xd,k3⟩,rfl⟩)
          case measure=>simp[intOf];omega
      ·have HR:Hid (fJ ss ((m+1)+1)=true):=by
        obtain rfl:q=s.fields.length:=by omega
        have h1:aH ss s.fields=true:=by rw[aH,HQ.out];simp[h6f]
        exact gL HA.out (by rw[HT.out,K3.out.1,K3.out.2,h1];rfl)
       go_wp2;go_roundw
       case rel=>first|exact⟨(m+1)+1,by omega,by go_num,HR.out,aa hW hM⟩|((repeat apply Exists.intro);exact⟨⟨(m+1)+1,by omega,by go_num,HR.out,aa hW hM⟩,rfl⟩)
       case measure=>simp[intOf];omega
  ·have HR:Hid (aN ss=true):=by
    obtain rfl:k=ss.length:=by omega
    show aN ss=true;rw[aN,HA.out];simp[h6]
   go_wp2;go_ret;exact⟨Pl.ae HR.out.symm,hW⟩
def bF (vs:List ByteArray) (fs:List Fld) (q:Nat):List ByteArray:=
 (List.range vs.length).map fun i=>if i<q∧(vs.getD i ByteArray.empty).toList.isEmpty=true then (fs.getD i Fld.none).de else vs.getD i ByteArray.empty
theorem ft (vs:List ByteArray) (fs:List Fld) (q:Nat):(bF vs fs q).length=vs.length:=by simp[bF]
theorem kL (vs:List ByteArray) (fs:List Fld) (q i:Nat) (hi:i<vs.length):(bF vs fs q).getD i ByteArray.empty=if i<q∧(vs.getD i ByteArray.empty).toList.isEmpty=true then (fs.getD i Fld.none).de else vs.getD i ByteArray.empty:=by
 simp[bF,hi]
theorem iR (vs:List ByteArray) (fs:List Fld):bF vs fs 0=vs:=by
 apply List.ext_getElem
 ·simp[bF]
 ·intro i h1 h2;simp[bF,h2]
theorem oX (vs:List ByteArray) (fs:List Fld) (q:Nat) (hq:q<vs.length):(bF vs fs q).getD q ByteArray.empty=vs.getD q ByteArray.empty:=by
 rw[kL _ _ _ _ hq,if_neg (by omega)]
theorem CT.set {w:World} {lo hi g cap:Nat} {vs:List ByteArray} {fs:List Fld} {q:Nat} (h:CT w lo hi (.slice (some ⟨g,0,none⟩) vs.length cap) (bF vs fs q)) (hq:q<vs.length) (he:(vs.getD q ByteArray.empty).toList.isEmpty=true):
  CT (w.setCell ⟨g,q,none⟩ (.string (fs.getD q Fld.none).de)) lo hi (.slice (some ⟨g,0,none⟩) vs.length cap) (bF vs fs (q+1)):=by
 rcases h with⟨e,_⟩|⟨g',yX,e,g1,g2,g3,g4,g5⟩
 ·injection e with e;cases e
 ·injection e with e1 e2 e3
  injection e1 with e1
  injection e1 with e1
  subst e1 e3;rw[ft]at g4 g5;refine Or.inr ⟨g,cap,by rw[ft],g1,g2,g3.setCell q _,by rw[ft];exact g4,fun i hi=> ?_⟩;rw[ft]at hi;by_cases hiq:i=q
  ·subst hiq;rw[eL g3 i (by omega),kL _ _ _ _ hi,if_pos ⟨by omega,he⟩]
  ·rw[aF _ _ _ _ _ _ (Or.inr hiq),g5 i hi,kL _ _ _ _ hi,kL _ _ _ _ hi];by_cases av:i<q
   ·simp[av,Nat.lt_succ_of_lt av]
   ·rw[if_neg (by omega),if_neg (by omega)]
theorem CT.lS {w:World} {lo hi:Nat} {v:Value} {vs:List ByteArray} {fs:List Fld} {q:Nat} (h:CT w lo hi v (bF vs fs q)) (hq:q<vs.length) (he:(vs.getD q ByteArray.empty).toList.isEmpty=false):CT w lo hi v (bF vs fs (q+1)):=by
 have e:bF vs fs (q+1)=bF vs fs q:=by
  unfold bF;apply List.map_congr_left;intro i hi;by_cases hiq:i=q
  ·subst hiq;rw[if_neg (by rw[he];simp),if_neg (by omega)]
  ·by_cases av:i<q
   ·simp[av,Nat.lt_succ_of_lt av]
   ·rw[if_neg (by omega),if_neg (by omega)]
 rw[e];exact h
theorem CT.row {w:World} {lo hi g cap n:Nat} {ss:List ByteArray} (h:CT w lo hi (.slice (some ⟨g,0,none⟩) n cap) ss):lo≤g∧g<hi∧ai w g 9 cap∧ss.length≤cap∧n=ss.length∧∀ i,i<ss.length→w.cell? ⟨g,i,none⟩=some (.string (ss.getD i ByteArray.empty)):=by
 rcases h with⟨e,_⟩|⟨g',yX,e,g1,g2,g3,g4,g5⟩
 ·injection e with e;cases e
 ·injection e with e1 e2 e3
  injection e1 with e1
  injection e1 with e1
  subst e1 e3;exact⟨g1,g2,g3,g4,e2,g5⟩
theorem jL (w0:World) (B:Nat) (ss:List Shp) (k:ByteArray) (w:World) (h:bh w0 B ss) (Cb:Bel w0 w):
  Calls Tryz.prog 132 #[.slice (some ⟨B,0,none⟩) ss.length ss.length,.string k] w fun e w'=>∃ kd a n c,e=.returned (.tuple #[.agg #[.string kd,.slice a n c],.bool (aK ss k)])∧qZ ss k w0 kd (.slice a n c)∧Bel w w':=by
 have hl:=h.len;have HH:=hid h;clear h;go_enter Tryz.func132,Tryz.ntmps132
 go_wp2;go_loopw [10] (fun i wr=>∃ q:Nat,q≤ss.length∧i=.int .i64 q∧q≤aB ss k∧Bel w wr∧ai wr w.heap.size 134 2) (fun i _=>ss.length - (intOf i).toNat)
 case atStart=>exact⟨0,nz,rfl,nz,ab br _,ai.alloc w _ 134 _ rfl⟩
 case round=>
  obtain⟨q,hq,rfl,iM,hW,hO⟩:=hrel;have HN:=hid iM;have HO:=hid hO;have ij:=hO.frozen;obtain⟨x0,o0⟩:=hO.cell 0 (by omega);obtain⟨x1,o1⟩:=hO.cell 1 (by omega);have hz:=hO.lt;clear iM hO;by_cases av:q<ss.length
  ·obtain⟨b,_,gW,_,_,d0,d1,hf⟩:=HH.out.at_ q av;have c0:=((aa Cb hW).cell (p:=⟨B,q*2,none⟩) HH.out.lt).trans d0;have c1:=((aa Cb hW).cell (p:=⟨B,q*2+1,none⟩) HH.out.lt).trans d1;clear d0 d1;obtain⟨s,hs⟩:∃ s,s=ss.getD q Shp.none:=⟨_,rfl⟩
   rw[← hs]at c0 c1 hf;cases ht:(s.kind.toList==k.toList)
   ·have HM:=hid (kh ss k q av HN.out (by rw[← hs];exact ht));clear hs hf gW;go_wp2;go_roundw
    case rel=>exact⟨q+1,by omega,by go_num,HM.out,ab hW _,HO.out.later (ab br _)⟩
    case measure=>simp[intOf];omega
   ·have HM:=hid (lF ss k q av HN.out (by rw[← hs];exact ht));have HS:=hid (And.intro hs (And.intro gW hf));have HK:Hid (aK ss k=true):=by show _=_;simp[aK,HM.out,av]
    clear hs hf gW;go_wp2;have e0:∀ (x:Value) (o:Obj),(((wr.setCell ⟨w.heap.size,0,none⟩ (.string s.kind)).setCell ⟨w.heap.size,1,none⟩ x).alloc o).cell? ⟨w.heap.size,0,none⟩=some (.string s.kind):=by
     intro x o;have h1:=World.cell?_alloc_past (w:=(wr.setCell ⟨w.heap.size,0,none⟩ (.string s.kind)).setCell ⟨w.heap.size,1,none⟩ x) o w.heap.size 0 (by rw[bg,bg];exact hz);rw[h1,aF _ _ _ _ _ _ (by omega)];exact eL HO.out 0 (by omega) _
    have e1:∀ (x:Value) (o:Obj),(((wr.setCell ⟨w.heap.size,0,none⟩ (.string s.kind)).setCell ⟨w.heap.size,1,none⟩ x).alloc o).cell? ⟨w.heap.size,1,none⟩=some x:=by
     intro x o;have h1:=World.cell?_alloc_past (w:=(wr.setCell ⟨w.heap.size,0,none⟩ (.string s.kind)).setCell ⟨w.heap.size,1,none⟩ x) o w.heap.size 1 (by rw[bg,bg];exact hz);rw[h1];exact eL (HO.out.setCell 0 _) 1 (by omega) _
    refine bodyPost_ret (v:=.tuple #[.agg #[.string s.kind,.slice (some ⟨b,0,none⟩) s.fields.length s.fields.length],.bool true]) (by simp[results,Tryz.results132,go_sem,e0,e1]) rfl ⟨_,_,_,_,by rw[HK.out], ?_, ?_⟩
    ·intro _;rw[HM.out,← HS.out.1];exact⟨rfl,b,rfl,HS.out.2.1,HS.out.2.2⟩
    ·exact ab ((hW.setCell (p:=⟨w.heap.size,0,none⟩) nr _).setCell (p:=⟨w.heap.size,1,none⟩) nr _) _
  ·have HK:Hid (aK ss k=false):=by have:=HN.out;show aK ss k=false;simp[aK];omega
   go_wp2;have e0:∀ (x y:Value),((wr.setCell ⟨w.heap.size,0,none⟩ y).setCell ⟨w.heap.size,1,none⟩ x).cell? ⟨w.heap.size,0,none⟩=some y:=by
    intro x y;rw[aF _ _ _ _ _ _ (by omega)];exact eL HO.out 0 (by omega) _
   have e1:∀ (x y:Value),((wr.setCell ⟨w.heap.size,0,none⟩ y).setCell ⟨w.heap.size,1,none⟩ x).cell? ⟨w.heap.size,1,none⟩=some x:=by
    intro x y;exact eL (HO.out.setCell 0 _) 1 (by omega) _
   refine bodyPost_ret (v:=.tuple #[.agg #[.string ⟨#[]⟩,.slice none 0 0],.bool false]) (by simp[results,Tryz.results132,go_sem,e0,e1]) rfl ⟨_,_,_,_,by rw[HK.out], ?_, ?_⟩
   ·intro h;rw[HK.out]at h;cases h
   ·exact(hW.setCell (p:=⟨w.heap.size,0,none⟩) nr _).setCell (p:=⟨w.heap.size,1,none⟩) nr _
structure gg (w wr:World) (X mid:Nat) (o:Ob) (vals:List ByteArray) (v1 v2:Value):Prop where
 bel:Bel w wr
 own:ai wr (w.heap.size+1) 111 7
 lt:X<wr.heap.size
 x0:wr.cell? ⟨X,0,none⟩=some (.string o.kind)
 x1:wr.cell? ⟨X,1,none⟩=some (.string o.name)
 x2:wr.cell? ⟨X,2,none⟩=some (.string o.team)
 x3:wr.cell? ⟨X,3,none⟩=some (v1)
 x4:wr.cell? ⟨X,4,none⟩=some (.bool o.ending)
 x5:wr.cell? ⟨X,5,none⟩=some (v2)
 x6:wr.cell? ⟨X,6,none⟩=some (.int .i64 o.version)
 c1:CT wr (w.heap.size+2) mid v1 vals
 c2:CT wr mid X v2 o.holds
 m1:w.heap.size+2≤mid
 m2:mid≤X
theorem gg.later {w wr wr':World} {X mid:Nat} {o:Ob} {vals:List ByteArray} {v1 v2:Value} (h:gg w wr X mid o vals v1 v2) (hb:Bel wr wr'):gg w wr' X mid o vals v1 v2:=by
 have c:∀ j,wr'.cell? ⟨X,j,none⟩=wr.cell? ⟨X,j,none⟩:=fun j=>hb.cell (p:=⟨X,j,none⟩) h.lt;exact⟨aa h.bel hb,h.own.later hb,lo h.lt hb.size,(c 0).trans h.x0,(c 1).trans h.x1,(c 2).trans h.x2,(c 3).trans h.x3,(c 4).trans h.x4,(c 5).trans h.x5,(c 6).trans h.x6,h.c1.later hb,h.c2.later hb,h.m1,h.m2⟩
theorem gg.put {w wr:World} {X mid:Nat} {o:Ob} {vs:List ByteArray} {fs:List Fld} {q g cap:Nat} {v2:Value} (h:gg w wr X mid o (bF vs fs q) (.slice (some ⟨g,0,none⟩) vs.length cap) v2) (hq:q<vs.length) (he:(vs.getD q ByteArray.empty).toList.isEmpty=true):
  gg w (wr.setCell ⟨g,q,none⟩ (.string (fs.getD q Fld.none).de)) X mid o (bF vs fs (q+1)) (.slice (some ⟨g,0,none⟩) vs.length cap) v2:=by
 obtain⟨g1,g2,_,_,_,_⟩:=h.c1.row;have m1:=h.m1;have m2:=h.m2;have c:∀ j,(wr.setCell ⟨g,q,none⟩ (.string (fs.getD q Fld.none).de)).cell? ⟨X,j,none⟩=wr.cell? ⟨X,j,none⟩:=fun j=>aF _ _ _ _ _ _ (Or.inl (by omega));exact⟨h.bel.setCell (p:=⟨g,q,none⟩) (by show w.heap.size≤g;omega) _,h.own.bk (by omega) _ _,by rw[fm];exact h.lt,(c 0).trans h.x0,(c 1).trans h.x1,(c 2).trans h.x2,(c 3).trans h.x3,(c 4).trans h.x4,(c 5).trans h.x5,(c 6).trans h.x6,h.c1.set hq he,h.c2.sc (Or.inl (by omega)) _ _,m1,m2⟩
theorem gg.lS {w wr:World} {X mid:Nat} {o:Ob} {vs:List ByteArray} {fs:List Fld} {q:Nat} {v1 v2:Value} (h:gg w wr X mid o (bF vs fs q) v1 v2) (hq:q<vs.length) (he:(vs.getD q ByteArray.empty).toList.isEmpty=false):
  gg w wr X mid o (bF vs fs (q+1)) v1 v2:=
 ⟨h.bel,h.own,h.lt,h.x0,h.x1,h.x2,h.x3,h.x4,h.x5,h.x6,h.c1.lS hq he,h.c2,h.m1,h.m2⟩
theorem CT.aI {lo hi R:Nat} {v:Value} {ss:List ByteArray} (o:Nat) (hR:R<lo∨hi≤R):∀ (vs:List Value) (w:World) (j:Nat),CT w lo hi v ss→CT (aI w R o j vs) lo hi v ss
 |[],_,_,h=>h
 |x::vs,_,_,h=>CT.aI o hR vs _ _ (h.sc hR _ x)
theorem gg.out {w W:World} {X mid:Nat} {o:Ob} {vals:List ByteArray} {v1 v2:Value} (h:gg w W X mid o vals v1 v2) (L:List Value) (hL:L.length=7):
  (∀ j,j<7→(aI W (w.heap.size+1) 0 0 L).cell? ⟨w.heap.size+1,0+(0+j),none⟩=L[j]?)∧w.heap.size+1<(aI W (w.heap.size+1) 0 0 L).heap.size∧CT (aI W (w.heap.size+1) 0 0 L) w.heap.size mid v1 vals∧CT (aI W (w.heap.size+1) 0 0 L) mid (aI W (w.heap.size+1) 0 0 L).heap.size v2 o.holds∧w.heap.size≤mid∧mid≤(aI W (w.heap.size+1) 0 0 L).heap.size∧Bel w (aI W (w.heap.size+1) 0 0 L):=by
 have m1:=h.m1;have m2:=h.m2;have l:=h.lt;rw[bQ];refine⟨fun j hj=>cB 0 L W 0 h.own (by omega) j (by omega),h.own.lt,(CT.aI 0 (Or.inl (by omega)) L W 0 h.c1).mono (by omega) nr,(CT.aI 0 (Or.inl (by omega)) L W 0 h.c2).mono nr (by omega),by omega,by omega,aY (a:=w) 0 (B:=w.heap.size+1) (by omega) L W 0 h.bel⟩
end Go.Proofs.YtbiokpmdghmgcaaGreat
