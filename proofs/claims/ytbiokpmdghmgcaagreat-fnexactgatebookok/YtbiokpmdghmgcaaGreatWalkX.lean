import Derived.Test.YtbiokpmdghmgcaaGreatWalkV
namespace Go.Proofs.YtbiokpmdghmgcaaGreat
set_option maxHeartbeats 40000000
open Go.RowKit Go.Deep
theorem gE (s:ByteArray) (w:World) (hs:s.size≤maxLen):
  Calls Tryz.prog 89 #[.string s] w fun e w'=>e=.returned (.bool (Pl.aq s))∧w'=w:=(aK s w hs).mono fun _ _ h=>⟨h.1,h.2.symm⟩
theorem dR {ss:List Shp} {fs:List Fld} {k:Nat} (hk:k<fs.length) (h:fieldAt ss fs k=false):aG ss fs=false:=by
 unfold aG fk;rw[Pl.gd _ _ k hk h];simp
theorem jb {ss:List Shp} {fs:List Fld} {k:Nat} (h:fk ss fs k=true) (ha:fieldAt ss fs k=true):fk ss fs (k+1)=true:=by
 unfold fk at h ⊢;rw[Pl.g7,h,ha];rfl
theorem wz (B C:Nat) (ss:List Shp) (fs:List Fld) (w:World) (h:bd w B ss) (hf:bW w C fs):
  Calls Tryz.prog 171 #[.slice (some ⟨B,0,none⟩) ss.length ss.length,.slice (some ⟨C,0,none⟩) fs.length fs.length] w fun e w'=>e=.returned (.bool (aG ss fs))∧Bel w w':=by
 have HS:=hid h;have HF:=hid hf;have hl:=hf.len;clear h hf;by_cases h6:fs.length≤6
 case neg=>
  have HR:Hid (aG ss fs=false):=by show aG ss fs=_;simp[aG,h6]
  go_enter Tryz.func171,Tryz.ntmps171
  go_wp2;go_ret;exact⟨Pl.ae HR.out.symm,br⟩
 go_enter Tryz.func171,Tryz.ntmps171
 go_wp2;go_loopw [12] (fun i wr=>∃ k:Nat,k≤fs.length∧i=.int .i64 k∧fk ss fs k=true∧Bel w wr) (fun i _=>fs.length - (intOf i).toNat)
 case atStart=>exact⟨0,nz,rfl,rfl,br⟩
 case round=>
  obtain⟨k,hk,rfl,av,hW⟩:=hrel;have HA:=hid av;clear av;by_cases aw:k<fs.length
  ·obtain⟨f,fG⟩:∃ f,f=fs.getD k Fld.none:=⟨_,rfl⟩
   obtain⟨b,pz,dP⟩:=(HF.out.later hW).arg aw fG;have FX:=hid pz;obtain⟨c0,c1,c2,c3,c4,c5,c6,c7,c8,c9,c10,_,_⟩:=dP;have HN:=hid pz.sized.1;have HT:Hid (fieldAt ss fs k=(Pl.aq f.nm&&ay ss f&& !decide (nameAt fs f.nm<k))):=by
    show fieldAt ss fs k=_;rw[fieldAt,lK fs k aw,← fG]
   have HLe:Hid (nameAt fs f.nm≤k):=by show nameAt fs f.nm≤k;rw[fG];exact pX fs k aw
   have HP:Hid (∀ W,Bel wr W→Calls Tryz.prog 195 #[.slice (some ⟨C,0,none⟩) fs.length fs.length,.string f.nm] W fun e w'=>e=.returned (.int .i64 (nameAt fs f.nm:Int))∧Bel W w'):=by
    intro W h1;refine(fieldPlace C fs f.nm W ((HF.out.later hW).later h1)).mono ?_;rintro e w' ⟨⟨r,rfl,hr⟩,hb⟩;rw[if_pos (Nat.lt_of_le_of_lt HLe.out aw)]at hr;rw[hr];exact⟨rfl,hb⟩
   have HK:Hid (∀ W,Bel wr W→Calls Tryz.prog 196 #[.slice (some ⟨B,0,none⟩) ss.length ss.length,.agg #[.string f.nm,.int .i64 f.kind,.int .i64 f.least,.int .i64 f.most,.slice (some ⟨b,0,none⟩) f.words.length f.words.length,.string f.to,.int .i64 f.role,.bool f.must,.bool f.fixed,.string f.de,.string f.we]] W fun e w'=>e=.returned (.bool (ay ss f))∧Bel W w'):=
    fun W h1=>zf f b B ss W ((HS.out.later hW).later h1) (FX.out.later h1)
   clear fG pz;cases hnm:Pl.aq f.nm
   ·have HR:=hid (dR aw (by rw[HT.out,hnm];rfl));go_wp2_with (go_at_call 89;refine(aK _ _ HN.out).mono ?_;rintro e w' ⟨rfl,rfl⟩)
    go_ret;exact⟨Pl.ae HR.out.symm,ab hW _⟩
   ·have cJ:Bel wr (wr.alloc (.cells #[.string f.nm,.int .i64 f.kind,.int .i64 f.least,.int .i64 f.most,.slice (some ⟨b,0,none⟩) f.words.length f.words.length,.string f.to,.int .i64 f.role,.bool f.must,.bool f.fixed,.string f.de,.string f.we] 122)):=ab br _;go_wp2_with (first|(go_at_call 89;refine(aK _ _ HN.out).mono ?_;rintro e w' ⟨rfl,rfl⟩)|fail)
    refine(HP.out _ cJ).mono ?_;rintro e w2 ⟨rfl,aA⟩;have bF:=aa cJ aA;have k2:∀ o,w2.cell? ⟨wr.heap.size,o,none⟩=(wr.alloc (.cells #[.string f.nm,.int .i64 f.kind,.int .i64 f.least,.int .i64 f.most,.slice (some ⟨b,0,none⟩) f.words.length f.words.length,.string f.to,.int .i64 f.role,.bool f.must,.bool f.fixed,.string f.de,.string f.we] 122)).cell? ⟨wr.heap.size,o,none⟩:=fun o=>aA.cell (p:=⟨wr.heap.size,o,none⟩) (by simp);clear aA c0 c1 c2 c3 c4 c5 c6 c7 c8 c9 c10 HP cJ;by_cases htw:nameAt fs f.nm<k
    ·have HR:=hid (dR aw (by rw[HT.out];simp[htw]));go_wp2;go_ret;exact⟨Pl.ae HR.out.symm,aa hW bF⟩
    ·have hni:¬ (nameAt fs f.nm:Int)<(k:Int):=by omega
     have uW:Hid (fieldAt ss fs k=ay ss f):=by show fieldAt ss fs k=_;rw[HT.out,hnm];simp[htw]
     go_wp2_with fail
     refine(HK.out _ bF).mono ?_;rintro e w3 ⟨rfl,aQ⟩;have eW:=aa hW (aa bF aQ);clear aQ k2 bF HK htw;cases gJ:ay ss f
     ·have HR:=hid (dR aw (by rw[uW.out,gJ]));go_wp2;go_ret;exact⟨Pl.ae HR.out.symm,eW⟩
     ·have HR:=hid (jb HA.out (by rw[uW.out,gJ]));go_wp2;go_roundw
      case rel=>exact⟨k+1,by omega,by go_num,HR.out,eW⟩
      case measure=>simp[intOf];omega
  ·have HR:Hid (aG ss fs=true):=by
    obtain rfl:k=fs.length:=by omega
    show aG ss fs=true;rw[aG,HA.out];simp[h6]
   go_wp2;go_ret;exact⟨Pl.ae HR.out.symm,hW⟩
theorem bg {ss:List Shp} {k:Nat} (hk:k<ss.length) (h:dH ss k=false):aM ss=false:=by
 unfold aM fK;rw[Pl.gd _ _ k hk h];simp
theorem gD {ss:List Shp} {k:Nat} (h:fK ss k=true) (ha:dH ss k=true):fK ss (k+1)=true:=by
 unfold fK at h ⊢;rw[Pl.g7,h,ha];rfl
theorem bd.uj {w:World} {B:Nat} {ss:List Shp} (h:bd w B ss) {i:Nat} (hi:i<ss.length) {s:Shp} (hs:s=ss.getD i Shp.none):
  ∃ b,bW w b s.fields∧s.kind.size≤maxLen∧w.cell? ⟨B,i*2,none⟩=some (.string s.kind)∧w.cell? ⟨B,i*2+1,none⟩=some (.slice (some ⟨b,0,none⟩) s.fields.length s.fields.length):=by
 obtain⟨b,h1,h2,h3,h4,h5,h6,h7⟩:=h.at_ i hi;rw[← hs]at h3 h4 h5 h6 h7;have hm:s.small:=h.small s (by rw[hs];simp[hi]);exact⟨b,⟨h2,h3,hm.2,h7⟩,h4,h5,h6⟩
theorem xn (B:Nat) (ss:List Shp) (w:World) (h:bd w B ss):
  Calls Tryz.prog 131 #[.slice (some ⟨B,0,none⟩) ss.length ss.length] w fun e w'=>e=.returned (.bool (aM ss))∧Bel w w':=by
 have HS:=hid h;have hl:=h.len;clear h;by_cases h6:ss.length≤6
 case neg=>
  have HR:Hid (aM ss=false):=by show aM ss=_;simp[aM,h6]
  go_enter Tryz.func131,Tryz.ntmps131
  go_wp2;go_ret;exact⟨Pl.ae HR.out.symm,br⟩
 go_enter Tryz.func131,Tryz.ntmps131
 go_wp2;go_loopw [10] (fun i wr=>∃ k:Nat,k≤ss.length∧i=.int .i64 k∧fK ss k=true∧Bel w wr) (fun i _=>ss.length - (intOf i).toNat)
 case atStart=>exact⟨0,nz,rfl,rfl,br⟩
 case round=>
  obtain⟨k,hk,rfl,av,hW⟩:=hrel;have HA:=hid av;clear av;by_cases aw:k<ss.length
  ·obtain⟨s,jN⟩:∃ s,s=ss.getD k Shp.none:=⟨_,rfl⟩
   obtain⟨b,dV,IC,c0,c1⟩:=(HS.out.later hW).uj aw jN;have HN:=hid IC;have A9:Hid (∀ W,Bel wr W→Calls Tryz.prog 171 #[.slice (some ⟨B,0,none⟩) ss.length ss.length,.slice (some ⟨b,0,none⟩) s.fields.length s.fields.length] W fun e w'=>e=.returned (.bool (aG ss s.fields))∧Bel W w'):=
    fun W h1=>wz B b ss s.fields W ((HS.out.later hW).later h1) (dV.later h1)
   clear IC dV;have cJ:Bel wr (wr.alloc (.cells #[.string s.kind,.slice (some ⟨b,0,none⟩) s.fields.length s.fields.length] 134)):=ab br _;by_cases h0:k=0
   ·subst h0;have HT:Hid (dH ss 0=(Pl.aq s.kind&&aG ss s.fields)):=by show dH ss 0=_;rw[jN];simp[dH]
    clear jN;cases hn:Pl.aq s.kind
    ·have HR:=hid (bg aw (by rw[HT.out,hn];rfl));go_wp2_with fail
     go_quiet ((go_at_call 89;exact Calls.quiet_of_same (gE _ _ HN.out)))
     go_wp2;go_ret;exact⟨Pl.ae HR.out.symm,al (aa hW cJ) _⟩
    ·go_wp2_with fail
     go_quiet ((go_at_call 89;exact Calls.quiet_of_same (gE _ _ HN.out)))
     go_wp2_with fail
     refine(A9.out _ (al cJ _)).mono ?_;rintro e w3 ⟨rfl,aQ⟩;have eW:=aa hW (aa (al cJ _) aQ);clear aQ cJ A9 c0 c1;cases gJ:aG ss s.fields
     ·have HR:=hid (bg aw (by rw[HT.out,gJ];simp));go_wp2;go_ret;exact⟨Pl.ae HR.out.symm,eW⟩
     ·have HR:=hid (gD HA.out (by rw[HT.out,hn,gJ];rfl));go_wp2;go_roundw
      case rel=>exact⟨0+1,by omega,by go_num,HR.out,eW⟩
      case measure=>simp[intOf];omega
   ·obtain⟨m,rfl⟩:∃ m,k=m+1:=⟨k - 1,by omega⟩
    obtain⟨p,sU⟩:∃ p,p=ss.getD m Shp.none:=⟨_,rfl⟩
    obtain⟨b',_,_,d0,_⟩:=(HS.out.later hW).uj (by omega:m<ss.length) sU;have HT:Hid (dH ss (m+1)=(Pl.aq s.kind&&Op.bytesLess p.kind.toList s.kind.toList&&aG ss s.fields)):=by show dH ss (m+1)=_;rw[jN,sU];simp[dH,Pl.less]
    have Hm:=hid (lo HS.out.lt hW.size);have FW:=Hm.out;clear jN sU h0;cases hn:Pl.aq s.kind
    ·have HR:=hid (bg aw (by rw[HT.out,hn];rfl));go_wp2_with fail
     go_quiet ((go_at_call 89;exact Calls.quiet_of_same (gE _ _ HN.out)))
     go_wp2;go_ret;exact⟨Pl.ae HR.out.symm,al (aa hW cJ) _⟩
    ·cases hq:Op.bytesLess p.kind.toList s.kind.toList
     ·have HR:=hid (bg aw (by rw[HT.out,hn,hq];rfl));go_wp2_with fail
      go_quiet ((go_at_call 89;exact Calls.quiet_of_same (gE _ _ HN.out)))
      go_wp2;go_ret;exact⟨Pl.ae HR.out.symm,al (aa hW cJ) _⟩
     ·go_wp2_with fail
      go_quiet ((go_at_call 89;exact Calls.quiet_of_same (gE _ _ HN.out)))
      go_wp2_with fail
      refine(A9.out _ (al cJ _)).mono ?_;rintro e w3 ⟨rfl,aQ⟩;have eW:=aa hW (aa (al cJ _) aQ);clear aQ cJ A9 c0 c1 d0;cases gJ:aG ss s.fields
      ·have HR:=hid (bg aw (by rw[HT.out,gJ];simp));go_wp2;go_ret;exact⟨Pl.ae HR.out.symm,eW⟩
      ·have HR:=hid (gD HA.out (by rw[HT.out,hn,hq,gJ];rfl));go_wp2;go_roundw
       case rel=>exact⟨m+1+1,by omega,by go_num,HR.out,eW⟩
       case measure=>simp[intOf];omega
  ·have HR:Hid (aM ss=true):=by
    obtain rfl:k=ss.length:=by omega
    show aM ss=true;rw[aM,HA.out];simp[h6]
   go_wp2;go_ret;exact⟨Pl.ae HR.out.symm,hW⟩
end Go.Proofs.YtbiokpmdghmgcaaGreat
