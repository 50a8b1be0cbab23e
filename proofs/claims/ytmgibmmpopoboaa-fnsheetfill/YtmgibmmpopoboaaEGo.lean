import Derived.Test.YtmgibmmpopoboaaEGf
namespace Go.Proofs.Ytmgibmmpopoboaa
set_option maxHeartbeats 40000000
open Go.RowKit Go.Deep
theorem AL (b:Pl.Bl) (lv:Value) (key:ByteArray) (w:World) (h:Raw w aJ [aU b.lines] [lv]) (hl:b.lines.length≤4194304) (hw:∀ x∈b.lines,x.ws.length≤4194304):
  Calls Try.prog 24 #[.agg #[.string b.kind,.string b.name,lv],.string key] w (fe aJ (aU (Pl.aI b.lines key)) w):=by
 have HL:=uh h;have D3:=uh hw;obtain⟨va,vc,ev⟩:=h.aP;subst ev;clear h hw;obtain⟨l,D2⟩:∃ l,l=b.lines:=⟨_,rfl⟩
 rw[← D2]at HL D3 hl ⊢;clear D2;obtain⟨n,hn⟩:∃ n,n=l.length:=⟨_,rfl⟩
 have HN:=uh hn;have GJ:n≤4194304:=by omega
 have eD:l.length=n:=hn.symm;clear hn hl;rw[eD];clear eD;obtain⟨wa,aS⟩:∃ wa,wa=w.alloc (.cells #[.string b.kind,.string b.name,.slice va n vc] 32):=⟨_,rfl⟩
 have jP:Hid (Bel w wa):=by show Below _ _ _;rw[aS];exact ah zR _
 have cu:Hid (aD wa w.heap.size [.string b.kind,.string b.name,.slice va n vc]):=by show aD _ _ _;rw[aS];exact aD.new w #[.string b.kind,.string b.name,.slice va n vc] _ _ rfl
 have I3:=uh (HL.out.ae jP.out);go_enter Try.func24,Try.ntmps24
 go_upto_region 1 with fail
 rw[← aS];clear aS;obtain⟨b0,bD⟩:∃ b0,b0=w.heap.size:=⟨_,rfl⟩
 rw[← bD]at cu ⊢;have iG:=uh bD;clear bD;go_wp2;go_loopw [5,6] (fun vo vi wr=>∃ (k:Nat) (xs:List Value),k≤n∧vi=.int .i64 k∧Sv wa wr 53 au vo (Pl.aI (l.take k) key).length ((Pl.aI (l.take k) key).flatMap lnD) xs∧Bel wa wr) (fun _ vi _=>n - (intOf vi).toNat)
 case atStart=>exact⟨0,[],zN,rfl,Sv.emp au (heap_alloc_new wa _) zE,ah zR _⟩
 case round=>
  obtain⟨k,xs,hk,rfl,hG,hB⟩:=hrel;have fF:=uh hG;have dV:=uh hB;obtain⟨ua,uc,xK⟩:=hG.shape;subst xK;have x2:=(cu.out.ae hB).get 2 _ rfl;have xl:=(cu.out.ae hB).lt;clear hG hB;by_cases bN:k<n
  rotate_left
  ·have kg:l.take k=l:=List.take_of_length_le (by have:=HN.out;omega);rw[kg]at fF ⊢;have HC:=uh (pf (Pl.aI l key) _ wr (fF.out.done dV.out) (Nat.le_trans (Pl.ef _ _) (by have:=HN.out;omega)) (fun x hx=>D3.out x (List.mem_filter.1 hx).1));clear kg;go_wp2_with fail
   refine HC.out.mono ?_;rintro e w1 ⟨v1,F,rfl,hr,nd,lo,hb⟩;have HD:Hid (fe aJ (aU (Pl.aI l key)) w (.returned v1) w1):=⟨_,F,rfl,hr,nd,fun b hb=>Nat.le_trans (Nat.le_trans jP.out.size dV.out.size) (lo b hb),ai (ai jP.out dV.out) hb⟩
   clear hr nd lo hb;go_wp2;go_ret;exact HD.out
  have eP:k<l.length:=by have:=HN.out;omega
  rcases cX I3.out with⟨e0,_⟩|⟨p,o,c,hv,hp,ec,aZ⟩
  ·omega
  rw[← HN.out]at hv;injection hv with g1 _ g3
  subst g1;subst g3;obtain⟨aw,cw,dO,dF⟩:=aZ k eP;have jJ:=uh (Pl.qt (key:=key) eP);have hle:(Pl.aI (l.take k) key).length≤n:=Nat.le_trans (Pl.ef _ _) (by rw[List.length_take];omega);obtain⟨x,hx⟩:∃ x,x=l.getD k Pl.aQ:=⟨_,rfl⟩
  rw[← hx]at dO dF jJ;have cN:wr.rangeAt p (o+k*2) [.string x.key,.slice aw x.ws.length cw]:=aA dO hp dV.out;have jQ:Hid (Raw wa au (lnD x) [.string x.key,.slice aw x.ws.length cw]):=.s _ dF;have y0:wr.cell? ⟨p,o+k*2,none⟩=some (.string x.key):=aF cN 0 _ rfl;obtain⟨m,hm⟩:∃ m,m=(Pl.aI (l.take k) key).length:=⟨_,rfl⟩
  rw[← hm]at fF hle ⊢;have HM:=uh hm;have dd:(0:Int)≤(k:Int):=by omega
  have de:(k:Int)<(n:Int):=by omega
  clear hx dO dF aZ ec hp hm;cases hq:(x.key.toList==key.toList)
  ·have HE:Hid (Pl.aI (l.take (k+1)) key=Pl.aI (l.take k) key):=by show _=_;rw[jJ.out,hq];rfl
   go_wp2;go_roundw
   case rel=>exact⟨k+1,xs,by omega,by go_num,by rw[HE.out,← HM.out];exact fF.out,dV.out⟩
   case measure=>simp[intOf];omega
  ·have HE:Hid (Pl.aI (l.take (k+1)) key=Pl.aI (l.take k) key++[x]):=by show _=_;rw[jJ.out,hq];rfl
   go_wp2_with first|refine wpList_load_mid rfl 53 _ rfl p (o+k*2) rfl [.string x.key,.slice aw x.ws.length cw] _ cN Try.underlying53 rfl (by kernel_rfl) ?_|(refine kJ (wa:=wa) rfl _ _ rfl (.slice ua m uc) m _ xs rfl (fF.out.ae (ah zR _)) wr.heap.size 1 (lnD x) [.string x.key,.slice aw x.ws.length cw] rfl jQ.out (World.news_of_block (cs:=#[.string x.key,.slice aw x.ws.length cw]) (heap_alloc_new wr _)) (by omega) (Nat.le_trans dV.out.size (by simp)) ?_;intro gg1 KO w1 q1 q2;have HQ:=uh (And.intro q1 (fF.out.ae (ah zR _)|>.below (ah dV.out _) q2));clear q1 q2)
   go_roundw
   case rel=>exact⟨k+1,_,by omega,by go_num,by rw[HE.out,List.length_append,← HM.out,List.flatMap_append,List.flatMap_singleton];exact HQ.out.1,HQ.out.2⟩
   case measure=>simp[intOf];omega
end Go.Proofs.Ytmgibmmpopoboaa
