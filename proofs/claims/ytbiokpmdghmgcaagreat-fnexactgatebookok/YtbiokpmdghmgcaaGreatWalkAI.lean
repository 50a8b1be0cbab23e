import Derived.Test.YtbiokpmdghmgcaaGreatWalkX
import Derived.Test.YtbiokpmdghmgcaaGreatWalkAF
namespace Go.Proofs.YtbiokpmdghmgcaaGreat
set_option maxHeartbeats 40000000
open Go.RowKit Go.Deep
theorem yR (f:Fld) (b:Nat) (w:World) (hs:f.small) (h1:(f.kind==1)=false) (h2:(f.kind==2)=false) (h3:(f.kind==3)=false) (h4:(f.kind==4)=false):
  Calls Tryz.prog 194 #[.agg #[.string f.nm,.int .i64 f.kind,.int .i64 f.least,.int .i64 f.most,.slice (some ⟨b,0,none⟩) f.words.length f.words.length,.string f.to,.int .i64 f.role,.bool f.must,.bool f.fixed,.string f.de,.string f.we]] w fun e w'=>(∃ r:Bool,e=.returned (.bool r))∧Bel w w':=by
 have xV:f.words.length≤1048576:=hs;have g1:(f.kind !=1)=true:=by simp[bne,h1]
 have g2:(f.kind !=2)=true:=by simp[bne,h2]
 clear hs;go_enter Tryz.func194,Tryz.ntmps194
 go_wp2
 all_goals go_ret
 all_goals exact⟨⟨_,rfl⟩,ab br _⟩
theorem tX (f:Fld) (b:Nat) (v:Value) (ss:List Shp) (w:World) (hp:eC w b f) (h1:(f.kind==1)=false) (h2:(f.kind==2)=false) (h3:(f.kind==3)=false) (h4:(f.kind==4)=false):
  Calls Tryz.prog 161 #[v,.agg #[.string f.nm,.int .i64 f.kind,.int .i64 f.least,.int .i64 f.most,.slice (some ⟨b,0,none⟩) f.words.length f.words.length,.string f.to,.int .i64 f.role,.bool f.must,.bool f.fixed,.string f.de,.string f.we]] w fun e w'=>e=.returned (.bool (Pl.aq f.nm&&ay ss f))∧Bel w w':=by
 have HP:=hid hp;have qj:ay ss f=false:=by
  simp only[beq_eq_false_iff_ne,ne_eq]at h1 h2 h3 h4;have:isKind f.kind=false:=by rw[Bool.eq_false_iff];simp[isKind];omega
  simp[ay,this]
 have ea:=hid fun (W:World)=>yR f b W HP.out.small h1 h2 h3 h4;have iF:Hid (∀ W,Bel w W→Calls Tryz.prog 120 #[.agg #[.string f.nm,.int .i64 f.kind,.int .i64 f.least,.int .i64 f.most,.slice (some ⟨b,0,none⟩) f.words.length f.words.length,.string f.to,.int .i64 f.role,.bool f.must,.bool f.fixed,.string f.de,.string f.we],.string f.de] W fun e w'=>e=.returned (.bool (dA f f.de))∧Bel W w'):=by
  intro W hW;have Q:=HP.out.later hW;exact eL f.nm f.kind f.least f.most b 0 f.words.length f.to f.role f.must f.fixed f.de f.we f.de f.words W Q.sized.2.2.1 Q.lt (by have:f.words.length≤1048576:=Q.small;unfold maxLen;omega) Q.cells
 have hR:(Pl.aq f.nm&&ay ss f)=false:=by rw[qj];simp
 rw[hR];have HN:=hid HP.out.sized.1;clear hp qj hR HP;cases hnm:Pl.aq f.nm
 ·go_enter Tryz.func161,Tryz.ntmps161
  go_wp2_with (go_at_call 68;refine(aH _ _ HN.out).mono ?_;rintro e w' ⟨rfl,rfl⟩)
  go_ret;exact⟨rfl,ab br _⟩
 go_enter Tryz.func161,Tryz.ntmps161
 go_wp2_with (go_at_call 68;refine(aH _ _ HN.out).mono ?_;rintro e w' ⟨rfl,rfl⟩)
 refine(ea.out _).mono ?_;rintro e w2 ⟨⟨r,rfl⟩,aA⟩;have bF:=aa (ab (Below.refl w.heap.size w) (.cells #[.string f.nm,.int .i64 f.kind,.int .i64 f.least,.int .i64 f.most,.slice (some ⟨b,0,none⟩) f.words.length f.words.length,.string f.to,.int .i64 f.role,.bool f.must,.bool f.fixed,.string f.de,.string f.we] 122)) aA;have k2:∀ o,w2.cell? ⟨w.heap.size,o,none⟩=(w.alloc (.cells #[.string f.nm,.int .i64 f.kind,.int .i64 f.least,.int .i64 f.most,.slice (some ⟨b,0,none⟩) f.words.length f.words.length,.string f.to,.int .i64 f.role,.bool f.must,.bool f.fixed,.string f.de,.string f.we] 122)).cell? ⟨w.heap.size,o,none⟩:=fun o=>aA.cell (p:=⟨w.heap.size,o,none⟩) (by simp);have z2:w.heap.size<w2.heap.size:=by have:=aA.size;simp at this;omega
 clear aA ea HN;cases r
 ·go_wp2;go_ret;exact⟨rfl,bF⟩
 cases hem:f.de.toList.isEmpty
 ·cases dP:dA f f.de
  all_goals
   go_wp2_with fail
   refine(iF.out _ bF).mono ?_;rintro e w3 ⟨rfl,aQ⟩;have eW:=aa bF aQ;have k3:∀ o,w3.cell? ⟨w.heap.size,o,none⟩=(w.alloc (.cells #[.string f.nm,.int .i64 f.kind,.int .i64 f.least,.int .i64 f.most,.slice (some ⟨b,0,none⟩) f.words.length f.words.length,.string f.to,.int .i64 f.role,.bool f.must,.bool f.fixed,.string f.de,.string f.we] 122)).cell? ⟨w.heap.size,o,none⟩:=fun o=>(aQ.cell (p:=⟨w.heap.size,o,none⟩) z2).trans (k2 o);clear aQ k2 iF bF z2;go_wp2;go_ret;exact⟨rfl,eW⟩
 ·go_wp2;go_ret;exact⟨rfl,bF⟩
theorem rE (f:Fld) (b B:Nat) (ss:List Shp) (w:World) (h:bd w B ss) (hp:eC w b f):
  Calls Tryz.prog 161 #[.slice (some ⟨B,0,none⟩) ss.length ss.length,.agg #[.string f.nm,.int .i64 f.kind,.int .i64 f.least,.int .i64 f.most,.slice (some ⟨b,0,none⟩) f.words.length f.words.length,.string f.to,.int .i64 f.role,.bool f.must,.bool f.fixed,.string f.de,.string f.we]] w fun e w'=>e=.returned (.bool (Pl.aq f.nm&&ay ss f))∧Bel w w':=by
 by_cases h1:f.kind=1
 ·have:=um f b B ss w h1 h hp;rw[← h1]at this;exact this
 by_cases h2:f.kind=2
 ·have:=tk f b B ss w h2 h hp;rw[← h2]at this;exact this
 by_cases h3:f.kind=3
 ·have:=tz f b B ss w h3 h hp;rw[← h3]at this;exact this
 by_cases h4:f.kind=4
 ·have:=uq f b B ss w h4 h hp;rw[← h4]at this;exact this
 exact tX f b _ ss w hp (by simp[h1]) (by simp[h2]) (by simp[h3]) (by simp[h4])
theorem xx (B:Nat) (ss:List Shp) (w:World) (h:bd w B ss):
  Calls Tryz.prog 115 #[.slice (some ⟨B,0,none⟩) ss.length ss.length] w fun e w'=>e=.returned (.bool (aM ss))∧Bel w w':=by
 have HS:=hid h;have hl:=h.len;clear h;by_cases h6:ss.length≤6
 case neg=>
  have HR:Hid (aM ss=false):=by show aM ss=_;simp[aM,h6]
  go_enter Tryz.func115,Tryz.ntmps115
  go_wp2;go_ret;exact⟨Pl.ae HR.out.symm,br⟩
 go_enter Tryz.func115,Tryz.ntmps115
 go_wp2;go_loopw [3] (fun i wr=>∃ k:Nat,k≤ss.length∧i=.int .i64 k∧fK ss k=true∧Bel w wr) (fun i _=>ss.length - (intOf i).toNat)
 case atStart=>exact⟨0,nz,rfl,rfl,br⟩
 case round=>
  obtain⟨k,hk,rfl,av,hW⟩:=hrel;obtain⟨wo,rfl⟩:∃ wo:World,wo=wr:=⟨_,rfl⟩
  have HA:=hid av;clear av;by_cases aw:k<ss.length
  ·obtain⟨s,jN⟩:∃ s,s=ss.getD k Shp.none:=⟨_,rfl⟩
   obtain⟨b,dV,IC,c0,c1⟩:=(HS.out.later hW).uj aw jN;have HN:=hid IC;have oY:=hid dV;have hsl:=dV.len;clear IC dV;have cJ:Bel wo (wo.alloc (.cells #[.string s.kind,.slice (some ⟨b,0,none⟩) s.fields.length s.fields.length] 134)):=ab br _;by_cases h0:k=0
   ·subst h0;have HT:Hid (dH ss 0=(Pl.aq s.kind&&aG ss s.fields)):=by show dH ss 0=_;rw[jN];simp[dH]
    clear jN;cases hn:Pl.aq s.kind
    ·have HR:=hid (bg aw (by rw[HT.out,hn];rfl));go_wp2_with fail
     go_quiet ((go_at_call 68;exact Calls.quiet_of_same (cA _ _ HN.out)))
     go_wp2;go_ret;exact⟨Pl.ae HR.out.symm,al (aa hW cJ) _⟩
    ·by_cases h6f:s.fields.length≤6
     case neg=>
      have IF:decide ((6:Int)<(s.fields.length:Int))=true:=by simp;omega
      have HR:=hid (bg aw (by rw[HT.out];simp[aG,h6f]));go_wp2_with fail
      go_quiet ((go_at_call 68;exact Calls.quiet_of_same (cA _ _ HN.out)))
      go_wp2;go_ret;exact⟨Pl.ae HR.out.symm,al (aa hW cJ) _⟩
     have IF:decide ((6:Int)<(s.fields.length:Int))=false:=by simp;omega
     go_wp2_with fail
     go_quiet ((go_at_call 68;exact Calls.quiet_of_same (cA _ _ HN.out)))
     go_wp2;have JL:=hid hn;clear hn IF;go_loopw [5] (fun i wr=>∃ q:Nat,q≤s.fields.length∧i=.int .i64 q∧fk ss s.fields q=true∧Bel wo wr∧wo.heap.size<wr.heap.size∧∀ o,wr.cell? ⟨wo.heap.size,o,none⟩=(wo.alloc (.cells #[.string s.kind,.slice (some ⟨b,0,none⟩) s.fields.length s.fields.length] 134)).cell? ⟨wo.heap.size,o,none⟩) (fun i _=>s.fields.length - (intOf i).toNat)
     case atStart=>exact⟨0,nz,rfl,rfl,al cJ _,by show wo.heap.size<(wo.alloc (.cells #[.string s.kind,.slice (some ⟨b,0,none⟩) s.fields.length s.fields.length] 134)).heap.size;simp,fun o=>rfl⟩
     case round=>
      obtain⟨q,hq,rfl,Il,hM,hz,kM⟩:=hrel;have HQ:=hid Il;clear Il;by_cases hqlt:q<s.fields.length
      ·obtain⟨f,fG⟩:∃ f,f=s.fields.getD q Fld.none:=⟨_,rfl⟩
       obtain⟨b2,pz,dP⟩:=(oY.out.later hM).arg hqlt fG;have Bd:Hid (fieldAt ss s.fields q=(Pl.aq f.nm&&ay ss f&& !decide (nameAt s.fields f.nm<q))):=by
        show fieldAt ss s.fields q=_;rw[fieldAt,lK s.fields q hqlt,← fG]
       have HX:Hid (Calls Tryz.prog 161 #[.slice (some ⟨B,0,none⟩) ss.length ss.length,.agg #[.string f.nm,.int .i64 f.kind,.int .i64 f.least,.int .i64 f.most,.slice (some ⟨b2,0,none⟩) f.words.length f.words.length,.string f.to,.int .i64 f.role,.bool f.must,.bool f.fixed,.string f.de,.string f.we]] wr fun e w'=>e=.returned (.bool (Pl.aq f.nm&&ay ss f))∧Bel wr w'):=
        rE f b2 B ss wr ((HS.out.later hW).later hM) pz
       have x9:=hid fG;obtain⟨c0,c1,c2,c3,c4,c5,c6,c7,c8,c9,c10,_,_⟩:=dP;clear fG pz;go_wp2_with fail
       refine HX.out.mono ?_;rintro e w2 ⟨rfl,aA⟩;have Hq:=aa hM aA;have gR:=lo hz aA.size;have k2:∀ o,w2.cell? ⟨wo.heap.size,o,none⟩=(wo.alloc (.cells #[.string s.kind,.slice (some ⟨b,0,none⟩) s.fields.length s.fields.length] 134)).cell? ⟨wo.heap.size,o,none⟩:=fun o=>(aA.cell (p:=⟨wo.heap.size,o,none⟩) hz).trans (kM o);clear aA HX c0 c1 c2 c3 c4 c5 c6 c7 c8 c9 c10 kM hz hM;cases gJ:(Pl.aq f.nm&&ay ss f)
       ·have HR:Hid (aM ss=false):=by
         have h1:aG ss s.fields=false:=dR hqlt (by rw[Bd.out,gJ];rfl);exact bg aw (by rw[HT.out,h1];simp)
        go_wp2;go_ret;exact⟨Pl.ae HR.out.symm,aa hW Hq⟩
       ·go_wp2;go_loopw [6] (fun i wr=>∃ j:Nat,j≤q∧i=.int .i64 j∧j≤nameAt s.fields f.nm∧Bel wo wr∧wo.heap.size<wr.heap.size∧∀ o,wr.cell? ⟨wo.heap.size,o,none⟩=(wo.alloc (.cells #[.string s.kind,.slice (some ⟨b,0,none⟩) s.fields.length s.fields.length] 134)).cell? ⟨wo.heap.size,o,none⟩) (fun i _=>q - (intOf i).toNat)
        case atStart=>exact⟨0,nz,rfl,nz,Hq,gR,k2⟩
        case round=>
         obtain⟨j,hj,rfl,ID,xM,vN,k3⟩:=hrel;have HJ:=hid ID;clear ID k2;by_cases hjq:j<q
         ·obtain⟨g,xR⟩:∃ g,g=s.fields.getD j Fld.none:=⟨_,rfl⟩
          obtain⟨b3,_,Hi⟩:=(oY.out.later xM).arg (by omega:j<s.fields.length) xR;obtain⟨b4,_,dP⟩:=(oY.out.later xM).arg hqlt x9.out;have g0:=Hi.c0;have f0:=dP.c0;clear Hi dP;cases heq:(g.nm.toList==f.nm.toList)
          ·have HM:=hid (iS s.fields f.nm j (by omega) HJ.out (by rw[← xR];exact heq));clear xR;go_wp2_with fail
           go_quiet (fail)
           go_wp2;go_roundw
           case rel=>exact⟨j+1,by omega,by go_num,HM.out,al xM _,vN,k3⟩
           case measure=>simp[intOf];omega
          ·have HM:=hid (jG s.fields f.nm j (by omega) HJ.out (by rw[← xR];exact heq));have HR:Hid (aM ss=false):=by
            have h1:aG ss s.fields=false:=dR hqlt (by rw[Bd.out,HM.out];simp[hjq]);exact bg aw (by rw[HT.out,h1];simp)
           clear xR;go_wp2_with fail
           go_quiet (fail)
           go_wp2;go_ret;exact⟨Pl.ae HR.out.symm,aa hW (al xM _)⟩
         ·have HR:Hid (fk ss s.fields (q+1)=true):=by
           have CY:¬ nameAt s.fields f.nm<q:=by have:=HJ.out;omega
           exact jb HQ.out (by rw[Bd.out,gJ];simp[CY])
          go_wp2;go_roundw
          case rel=>first|exact⟨q+1,by omega,by go_num,HR.out,xM,vN,k3⟩|((repeat apply Exists.intro);exact⟨⟨q+1,by omega,by go_num,HR.out,xM,vN,k3⟩,rfl⟩)
          case measure=>simp[intOf];omega
      ·have HR:Hid (fK ss (0+1)=true):=by
        obtain rfl:q=s.fields.length:=by omega
        have h1:aG ss s.fields=true:=by rw[aG,HQ.out];simp[h6f]
        exact gD HA.out (by rw[HT.out,JL.out,h1];rfl)
       go_wp2;go_roundw
       case rel=>first|exact⟨0+1,by omega,by go_num,HR.out,aa hW hM⟩|((repeat apply Exists.intro);exact⟨⟨0+1,by omega,by go_num,HR.out,aa hW hM⟩,rfl⟩)
       case measure=>simp[intOf];omega
   ·obtain⟨m,rfl⟩:∃ m,k=m+1:=⟨k - 1,by omega⟩
    obtain⟨p,sU⟩:∃ p,p=ss.getD m Shp.none:=⟨_,rfl⟩
    obtain⟨b',_,_,d0,_⟩:=(HS.out.later hW).uj (by omega:m<ss.length) sU;have HT:Hid (dH ss (m+1)=(Pl.aq s.kind&&Op.bytesLess p.kind.toList s.kind.toList&&aG ss s.fields)):=by show dH ss (m+1)=_;rw[jN,sU];simp[dH,Pl.less]
    have FW:=lo HS.out.lt hW.size;have DM:decide ((m:Int)+1<(ss.length:Int))=true:=by simp;omega
    clear jN sU h0;cases hn:Pl.aq s.kind
    ·have HR:=hid (bg aw (by rw[HT.out,hn];rfl));go_wp2_with fail
     go_quiet ((go_at_call 68;exact Calls.quiet_of_same (cA _ _ HN.out)))
     go_wp2;go_ret;exact⟨Pl.ae HR.out.symm,al (aa hW cJ) _⟩
    ·cases hq:Op.bytesLess p.kind.toList s.kind.toList
     ·have HR:=hid (bg aw (by rw[HT.out,hn,hq];rfl));go_wp2_with fail
      go_quiet ((go_at_call 68;exact Calls.quiet_of_same (cA _ _ HN.out)))
      go_wp2;go_ret;exact⟨Pl.ae HR.out.symm,al (aa hW cJ) _⟩
     by_cases h6f:s.fields.length≤6
     case neg=>
      have IF:decide ((6:Int)<(s.fields.length:Int))=true:=by simp;omega
      have HR:=hid (bg aw (by rw[HT.out];simp[aG,h6f]));go_wp2_with fail
      go_quiet ((go_at_call 68;exact Calls.quiet_of_same (cA _ _ HN.out)))
      go_wp2;go_ret;exact⟨Pl.ae HR.out.symm,al (aa hW cJ) _⟩
     have IF:decide ((6:Int)<(s.fields.length:Int))=false:=by simp;omega
     go_wp2_with fail
     go_quiet ((go_at_call 68;exact Calls.quiet_of_same (cA _ _ HN.out)))
     go_wp2;have JL:=hid (And.intro hn hq);clear hn IF hq d0;go_loopw [5] (fun i wr=>∃ q:Nat,q≤s.fields.length∧i=.int .i64 q∧fk ss s.fields q=true∧Bel wo wr∧wo.heap.size<wr.heap.size∧∀ o,wr.cell? ⟨wo.heap.size,o,none⟩=(wo.alloc (.cells #[.string s.kind,.slice (some ⟨b,0,none⟩) s.fields.length s.fields.length] 134)).cell? ⟨wo.heap.size,o,none⟩) (fun i _=>s.fields.length - (intOf i).toNat)
     case atStart=>exact⟨0,nz,rfl,rfl,al cJ _,by show wo.heap.size<(wo.alloc (.cells #[.string s.kind,.slice (some ⟨b,0,none⟩) s.fields.length s.fields.length] 134)).heap.size;simp,fun o=>rfl⟩
     case round=>
      obtain⟨q,hq,rfl,Il,hM,hz,kM⟩:=hrel;have HQ:=hid Il;clear Il;by_cases hqlt:q<s.fields.length
      ·obtain⟨f,fG⟩:∃ f,f=s.fields.getD q Fld.none:=⟨_,rfl⟩
       obtain⟨b2,pz,dP⟩:=(oY.out.later hM).arg hqlt fG;have Bd:Hid (fieldAt ss s.fields q=(Pl.aq f.nm&&ay ss f&& !decide (nameAt s.fields f.nm<q))):=by
        show fieldAt ss s.fields q=_;rw[fieldAt,lK s.fields q hqlt,← fG]
       have HX:Hid (Calls Tryz.prog 161 #[.slice (some ⟨B,0,none⟩) ss.length ss.length,.agg #[.string f.nm,.int .i64 f.kind,.int .i64 f.least,.int .i64 f.most,.slice (some ⟨b2,0,none⟩) f.words.length f.words.length,.string f.to,.int .i64 f.role,.bool f.must,.bool f.fixed,.string f.de,.string f.we]] wr fun e w'=>e=.returned (.bool (Pl.aq f.nm&&ay ss f))∧Bel wr w'):=
        rE f b2 B ss wr ((HS.out.later hW).later hM) pz
       have x9:=hid fG;obtain⟨c0,c1,c2,c3,c4,c5,c6,c7,c8,c9,c10,_,_⟩:=dP;clear fG pz;go_wp2_with fail
       refine HX.out.mono ?_;rintro e w2 ⟨rfl,aA⟩;have Hq:=aa hM aA;have gR:=lo hz aA.size;have k2:∀ o,w2.cell? ⟨wo.heap.size,o,none⟩=(wo.alloc (.cells #[.string s.kind,.slice (some ⟨b,0,none⟩) s.fields.length s.fields.length] 134)).cell? ⟨wo.heap.size,o,none⟩:=fun o=>(aA.cell (p:=⟨wo.heap.size,o,none⟩) hz).trans (kM o);clear aA HX c0 c1 c2 c3 c4 c5 c6 c7 c8 c9 c10 kM hz hM;cases gJ:(Pl.aq f.nm&&ay ss f)
       ·have HR:Hid (aM ss=false):=by
         have h1:aG ss s.fields=false:=dR hqlt (by rw[Bd.out,gJ];rfl);exact bg aw (by rw[HT.out,h1];simp)
        go_wp2;go_ret;exact⟨Pl.ae HR.out.symm,aa hW Hq⟩
       ·go_wp2;go_loopw [6] (fun i wr=>∃ j:Nat,j≤q∧i=.int .i64 j∧j≤nameAt s.fields f.nm∧Bel wo wr∧wo.heap.size<wr.heap.size∧∀ o,wr.cell? ⟨wo.heap.size,o,none⟩=(wo.alloc (.cells #[.string s.kind,.slice (some ⟨b,0,none⟩) s.fields.length s.fields.length] 134)).cell? ⟨wo.heap.size,o,none⟩) (fun i _=>q - (intOf i).toNat)
        case atStart=>exact⟨0,nz,rfl,nz,Hq,gR,k2⟩
        case round=>
         obtain⟨j,hj,rfl,ID,xM,vN,k3⟩:=hrel;have HJ:=hid ID;clear ID k2;by_cases hjq:j<q
         ·obtain⟨g,xR⟩:∃ g,g=s.fields.getD j Fld.none:=⟨_,rfl⟩
          obtain⟨b3,_,Hi⟩:=(oY.out.later xM).arg (by omega:j<s.fields.length) xR;obtain⟨b4,_,dP⟩:=(oY.out.later xM).arg hqlt x9.out;have g0:=Hi.c0;have f0:=dP.c0;clear Hi dP;cases heq:(g.nm.toList==f.nm.toList)
          ·have HM:=hid (iS s.fields f.nm j (by omega) HJ.out (by rw[← xR];exact heq));clear xR;go_wp2_with fail
           go_quiet (fail)
           go_wp2;go_roundw
           case rel=>exact⟨j+1,by omega,by go_num,HM.out,al xM _,vN,k3⟩
           case measure=>simp[intOf];omega
          ·have HM:=hid (jG s.fields f.nm j (by omega) HJ.out (by rw[← xR];exact heq));have HR:Hid (aM ss=false):=by
            have h1:aG ss s.fields=false:=dR hqlt (by rw[Bd.out,HM.out];simp[hjq]);exact bg aw (by rw[HT.out,h1];simp)
           clear xR;go_wp2_with fail
           go_quiet (fail)
           go_wp2;go_ret;exact⟨Pl.ae HR.out.symm,aa hW (al xM _)⟩
         ·have HR:Hid (fk ss s.fields (q+1)=true):=by
           have CY:¬ nameAt s.fields f.nm<q:=by have:=HJ.out;omega
           exact jb HQ.out (by rw[Bd.out,gJ];simp[CY])
          go_wp2;go_roundw
          case rel=>first|exact⟨q+1,by omega,by go_num,HR.out,xM,vN,k3⟩|((repeat apply Exists.intro);exact⟨⟨q+1,by omega,by go_num,HR.out,xM,vN,k3⟩,rfl⟩)
          case measure=>simp[intOf];omega
      ·have HR:Hid (fK ss ((m+1)+1)=true):=by
        obtain rfl:q=s.fields.length:=by omega
        have h1:aG ss s.fields=true:=by rw[aG,HQ.out];simp[h6f]
        exact gD HA.out (by rw[HT.out,JL.out.1,JL.out.2,h1];rfl)
       go_wp2;go_roundw
       case rel=>first|exact⟨(m+1)+1,by omega,by go_num,HR.out,aa hW hM⟩|((repeat apply Exists.intro);exact⟨⟨(m+1)+1,by omega,by go_num,HR.out,aa hW hM⟩,rfl⟩)
       case measure=>simp[intOf];omega
  ·have HR:Hid (aM ss=true):=by
    obtain rfl:k=ss.length:=by omega
    show aM ss=true;rw[aM,HA.out];simp[h6]
   go_wp2;go_ret;exact⟨Pl.ae HR.out.symm,hW⟩
def bE (vs:List ByteArray) (fs:List Fld) (q:Nat):List ByteArray:=
 (List.range vs.length).map fun i=>if i<q∧(vs.getD i ByteArray.empty).toList.isEmpty=true then (fs.getD i Fld.none).de else vs.getD i ByteArray.empty
theorem fj (vs:List ByteArray) (fs:List Fld) (q:Nat):(bE vs fs q).length=vs.length:=by simp[bE]
theorem ky (vs:List ByteArray) (fs:List Fld) (q i:Nat) (hi:i<vs.length):(bE vs fs q).getD i ByteArray.empty=if i<q∧(vs.getD i ByteArray.empty).toList.isEmpty=true then (fs.getD i Fld.none).de else vs.getD i ByteArray.empty:=by
 simp[bE,hi]
theorem iX (vs:List ByteArray) (fs:List Fld):bE vs fs 0=vs:=by
 apply List.ext_getElem
 ·simp[bE]
 ·intro i h1 h2;simp[bE,h2]
theorem nk (vs:List ByteArray) (fs:List Fld) (q:Nat) (hq:q<vs.length):(bE vs fs q).getD q ByteArray.empty=vs.getD q ByteArray.empty:=by
 rw[ky _ _ _ _ hq,if_neg (by omega)]
theorem CT.set {w:World} {lo hi g cap:Nat} {vs:List ByteArray} {fs:List Fld} {q:Nat} (h:CT w lo hi (.slice (some ⟨g,0,none⟩) vs.length cap) (bE vs fs q)) (hq:q<vs.length) (he:(vs.getD q ByteArray.empty).toList.isEmpty=true):
  CT (w.setCell ⟨g,q,none⟩ (.string (fs.getD q Fld.none).de)) lo hi (.slice (some ⟨g,0,none⟩) vs.length cap) (bE vs fs (q+1)):=by
 rcases h with⟨e,_⟩|⟨g',xL,e,g1,g2,g3,g4,g5⟩
 ·injection e with e;cases e
 ·injection e with e1 e2 e3
  injection e1 with e1
  injection e1 with e1
  subst e1 e3;rw[fj]at g4 g5;refine Or.inr ⟨g,cap,by rw[fj],g1,g2,g3.setCell q _,by rw[fj];exact g4,fun i hi=> ?_⟩;rw[fj]at hi;by_cases hiq:i=q
  ·subst hiq;rw[eJ g3 i (by omega),ky _ _ _ _ hi,if_pos ⟨by omega,he⟩]
  ·rw[aF _ _ _ _ _ _ (Or.inr hiq),g5 i hi,ky _ _ _ _ hi,ky _ _ _ _ hi];by_cases aw:i<q
   ·simp[aw,Nat.lt_succ_of_lt aw]
   ·rw[if_neg (by omega),if_neg (by omega)]
theorem CT.lM {w:World} {lo hi:Nat} {v:Value} {vs:List ByteArray} {fs:List Fld} {q:Nat} (h:CT w lo hi v (bE vs fs q)) (hq:q<vs.length) (he:(vs.getD q ByteArray.empty).toList.isEmpty=false):CT w lo hi v (bE vs fs (q+1)):=by
 have e:bE vs fs (q+1)=bE vs fs q:=by
  unfold bE;apply List.map_congr_left;intro i hi;by_cases hiq:i=q
  ·subst hiq;rw[if_neg (by rw[he];simp),if_neg (by omega)]
  ·by_cases aw:i<q
   ·simp[aw,Nat.lt_succ_of_lt aw]
   ·rw[if_neg (by omega),if_neg (by omega)]
 rw[e];exact h
theorem CT.row {w:World} {lo hi g cap n:Nat} {ss:List ByteArray} (h:CT w lo hi (.slice (some ⟨g,0,none⟩) n cap) ss):lo≤g∧g<hi∧ai w g 9 cap∧ss.length≤cap∧n=ss.length∧∀ i,i<ss.length→w.cell? ⟨g,i,none⟩=some (.string (ss.getD i ByteArray.empty)):=by
 rcases h with⟨e,_⟩|⟨g',xL,e,g1,g2,g3,g4,g5⟩
 ·injection e with e;cases e
 ·injection e with e1 e2 e3
  injection e1 with e1
  injection e1 with e1
  subst e1 e3;exact⟨g1,g2,g3,g4,e2,g5⟩
theorem jB (w0:World) (B:Nat) (ss:List Shp) (k:ByteArray) (w:World) (h:bd w0 B ss) (Bi:Bel w0 w):
  Calls Tryz.prog 132 #[.slice (some ⟨B,0,none⟩) ss.length ss.length,.string k] w fun e w'=>∃ kd a n c,e=.returned (.tuple #[.agg #[.string kd,.slice a n c],.bool (aJ ss k)])∧qu ss k w0 kd (.slice a n c)∧Bel w w':=by
 have hl:=h.len;have HH:=hid h;clear h;go_enter Tryz.func132,Tryz.ntmps132
 go_wp2;go_loopw [10] (fun i wr=>∃ q:Nat,q≤ss.length∧i=.int .i64 q∧q≤aB ss k∧Bel w wr∧ai wr w.heap.size 134 2) (fun i _=>ss.length - (intOf i).toNat)
 case atStart=>exact⟨0,nz,rfl,nz,ab br _,ai.alloc w _ 134 _ rfl⟩
 case round=>
  obtain⟨q,hq,rfl,iH,hW,hO⟩:=hrel;have HN:=hid iH;have HO:=hid hO;have hF:=hO.frozen;obtain⟨x0,o0⟩:=hO.cell 0 (by omega);obtain⟨x1,o1⟩:=hO.cell 1 (by omega);have hz:=hO.lt;clear iH hO;by_cases aw:q<ss.length
  ·obtain⟨b,_,gK,_,_,d0,d1,hf⟩:=HH.out.at_ q aw;have c0:=((aa Bi hW).cell (p:=⟨B,q*2,none⟩) HH.out.lt).trans d0;have c1:=((aa Bi hW).cell (p:=⟨B,q*2+1,none⟩) HH.out.lt).trans d1;clear d0 d1;obtain⟨s,hs⟩:∃ s,s=ss.getD q Shp.none:=⟨_,rfl⟩
   rw[← hs]at c0 c1 hf;cases ht:(s.kind.toList==k.toList)
   ·have HM:=hid (j4 ss k q aw HN.out (by rw[← hs];exact ht));clear hs hf gK;go_wp2;go_roundw
    case rel=>exact⟨q+1,by omega,by go_num,HM.out,ab hW _,HO.out.later (ab br _)⟩
    case measure=>simp[intOf];omega
   ·have HM:=hid (k7 ss k q aw HN.out (by rw[← hs];exact ht));have HS:=hid (And.intro hs (And.intro gK hf));have HK:Hid (aJ ss k=true):=by show aJ ss k=true;simp[aJ,HM.out,aw]
    clear hs hf gK;go_wp2;have e0:∀ (x:Value) (o:Obj),(((wr.setCell ⟨w.heap.size,0,none⟩ (.string s.kind)).setCell ⟨w.heap.size,1,none⟩ x).alloc o).cell? ⟨w.heap.size,0,none⟩=some (.string s.kind):=by
     intro x o;have h1:=World.cell?_alloc_past (w:=(wr.setCell ⟨w.heap.size,0,none⟩ (.string s.kind)).setCell ⟨w.heap.size,1,none⟩ x) o w.heap.size 0 (by rw[bc,bc];exact hz);rw[h1,aF _ _ _ _ _ _ (by omega)];exact eJ HO.out 0 (by omega) _
    have e1:∀ (x:Value) (o:Obj),(((wr.setCell ⟨w.heap.size,0,none⟩ (.string s.kind)).setCell ⟨w.heap.size,1,none⟩ x).alloc o).cell? ⟨w.heap.size,1,none⟩=some x:=by
     intro x o;have h1:=World.cell?_alloc_past (w:=(wr.setCell ⟨w.heap.size,0,none⟩ (.string s.kind)).setCell ⟨w.heap.size,1,none⟩ x) o w.heap.size 1 (by rw[bc,bc];exact hz);rw[h1];exact eJ (HO.out.setCell 0 _) 1 (by omega) _
    refine bodyPost_ret (v:=.tuple #[.agg #[.string s.kind,.slice (some ⟨b,0,none⟩) s.fields.length s.fields.length],.bool true]) (by simp[results,Tryz.results132,go_sem,e0,e1]) rfl ⟨_,_,_,_,by rw[HK.out], ?_, ?_⟩
    ·intro _;rw[HM.out,← HS.out.1];exact⟨rfl,b,rfl,HS.out.2.1,HS.out.2.2⟩
    ·exact ab ((hW.setCell (p:=⟨w.heap.size,0,none⟩) nr _).setCell (p:=⟨w.heap.size,1,none⟩) nr _) _
  ·have HK:Hid (aJ ss k=false):=by have:=HN.out;show aJ ss k=false;simp[aJ];omega
   go_wp2;have e0:∀ (x y:Value),((wr.setCell ⟨w.heap.size,0,none⟩ y).setCell ⟨w.heap.size,1,none⟩ x).cell? ⟨w.heap.size,0,none⟩=some y:=by
    intro x y;rw[aF _ _ _ _ _ _ (by omega)];exact eJ HO.out 0 (by omega) _
   have e1:∀ (x y:Value),((wr.setCell ⟨w.heap.size,0,none⟩ y).setCell ⟨w.heap.size,1,none⟩ x).cell? ⟨w.heap.size,1,none⟩=some x:=by
    intro x y;exact eJ (HO.out.setCell 0 _) 1 (by omega) _
   refine bodyPost_ret (v:=.tuple #[.agg #[.string ⟨#[]⟩,.slice none 0 0],.bool false]) (by simp[results,Tryz.results132,go_sem,e0,e1]) rfl ⟨_,_,_,_,by rw[HK.out], ?_, ?_⟩
   ·intro h;rw[HK.out]at h;cases h
   ·exact(hW.setCell (p:=⟨w.heap.size,0,none⟩) nr _).setCell (p:=⟨w.heap.size,1,none⟩) nr _
structure fU (w wr:World) (X mid:Nat) (o:Ob) (vals:List ByteArray) (v1 v2:Value):Prop where
 bel:Bel w wr
 own:ai wr (w.heap.size+1) 111 7
 lt:X<wr.heap.size
 x0:wr.cell? ⟨X,0,none⟩=some (.string o.kind)
 x1:wr.cell? ⟨X,1,none⟩=some (.string o.name)
 x2:wr.cell? ⟨X,2,none⟩=some (.string o.team)
 x3:wr.cell? ⟨X,3,none⟩=some (v1)
 x4:wr.cell? ⟨X,4,none⟩=some (.bool o.ending)
 x5:wr.cell? ⟨X,5,none⟩=some (v2)
 x6:wr.cell? ⟨X,6,none⟩=some (.int .i64 o.version)
 c1:CT wr (w.heap.size+2) mid v1 vals
 c2:CT wr mid X v2 o.holds
 m1:w.heap.size+2≤mid
 m2:mid≤X
theorem fU.later {w wr wr':World} {X mid:Nat} {o:Ob} {vals:List ByteArray} {v1 v2:Value} (h:fU w wr X mid o vals v1 v2) (hb:Bel wr wr'):fU w wr' X mid o vals v1 v2:=by
 have c:∀ j,wr'.cell? ⟨X,j,none⟩=wr.cell? ⟨X,j,none⟩:=fun j=>hb.cell (p:=⟨X,j,none⟩) h.lt;exact⟨aa h.bel hb,h.own.later hb,lo h.lt hb.size,(c 0).trans h.x0,(c 1).trans h.x1,(c 2).trans h.x2,(c 3).trans h.x3,(c 4).trans h.x4,(c 5).trans h.x5,(c 6).trans h.x6,h.c1.later hb,h.c2.later hb,h.m1,h.m2⟩
theorem fU.put {w wr:World} {X mid:Nat} {o:Ob} {vs:List ByteArray} {fs:List Fld} {q g cap:Nat} {v2:Value} (h:fU w wr X mid o (bE vs fs q) (.slice (some ⟨g,0,none⟩) vs.length cap) v2) (hq:q<vs.length) (he:(vs.getD q ByteArray.empty).toList.isEmpty=true):
  fU w (wr.setCell ⟨g,q,none⟩ (.string (fs.getD q Fld.none).de)) X mid o (bE vs fs (q+1)) (.slice (some ⟨g,0,none⟩) vs.length cap) v2:=by
 obtain⟨g1,g2,_,_,_,_⟩:=h.c1.row;have m1:=h.m1;have m2:=h.m2;have c:∀ j,(wr.setCell ⟨g,q,none⟩ (.string (fs.getD q Fld.none).de)).cell? ⟨X,j,none⟩=wr.cell? ⟨X,j,none⟩:=fun j=>aF _ _ _ _ _ _ (Or.inl (by omega));exact⟨h.bel.setCell (p:=⟨g,q,none⟩) (by show w.heap.size≤g;omega) _,h.own.bh (by omega) _ _,by rw[fh];exact h.lt,(c 0).trans h.x0,(c 1).trans h.x1,(c 2).trans h.x2,(c 3).trans h.x3,(c 4).trans h.x4,(c 5).trans h.x5,(c 6).trans h.x6,h.c1.set hq he,h.c2.sc (Or.inl (by omega)) _ _,m1,m2⟩
theorem fU.lM {w wr:World} {X mid:Nat} {o:Ob} {vs:List ByteArray} {fs:List Fld} {q:Nat} {v1 v2:Value} (h:fU w wr X mid o (bE vs fs q) v1 v2) (hq:q<vs.length) (he:(vs.getD q ByteArray.empty).toList.isEmpty=false):
  fU w wr X mid o (bE vs fs (q+1)) v1 v2:=
 ⟨h.bel,h.own,h.lt,h.x0,h.x1,h.x2,h.x3,h.x4,h.x5,h.x6,h.c1.lM hq he,h.c2,h.m1,h.m2⟩
theorem CT.aI {lo hi R:Nat} {v:Value} {ss:List ByteArray} (o:Nat) (hR:R<lo∨hi≤R):∀ (vs:List Value) (w:World) (j:Nat),CT w lo hi v ss→CT (aI w R o j vs) lo hi v ss
 |[],_,_,h=>h
 |x::vs,_,_,h=>CT.aI o hR vs _ _ (h.sc hR _ x)
theorem fU.out {w W:World} {X mid:Nat} {o:Ob} {vals:List ByteArray} {v1 v2:Value} (h:fU w W X mid o vals v1 v2) (L:List Value) (hL:L.length=7):
  (∀ j,j<7→(aI W (w.heap.size+1) 0 0 L).cell? ⟨w.heap.size+1,0+(0+j),none⟩=L[j]?)∧w.heap.size+1<(aI W (w.heap.size+1) 0 0 L).heap.size∧CT (aI W (w.heap.size+1) 0 0 L) w.heap.size mid v1 vals∧CT (aI W (w.heap.size+1) 0 0 L) mid (aI W (w.heap.size+1) 0 0 L).heap.size v2 o.holds∧w.heap.size≤mid∧mid≤(aI W (w.heap.size+1) 0 0 L).heap.size∧Bel w (aI W (w.heap.size+1) 0 0 L):=by
 have m1:=h.m1;have m2:=h.m2;have l:=h.lt;rw[bP];refine⟨fun j hj=>cx 0 L W 0 h.own (by omega) j (by omega),h.own.lt,(CT.aI 0 (Or.inl (by omega)) L W 0 h.c1).mono (by omega) nr,(CT.aI 0 (Or.inl (by omega)) L W 0 h.c2).mono nr (by omega),by omega,by omega,aW (a:=w) 0 (B:=w.heap.size+1) (by omega) L W 0 h.bel⟩
end Go.Proofs.YtbiokpmdghmgcaaGreat
