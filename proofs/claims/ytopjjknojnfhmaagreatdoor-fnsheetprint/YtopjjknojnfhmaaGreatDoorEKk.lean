import Derived.Test.YtopjjknojnfhmaaGreatDoorELt
import Derived.Test.YtopjjknojnfhmaaGreatDoorELc
import Derived.Test.YtopjjknojnfhmaaGreatDoorEGo
import Derived.Test.YtopjjknojnfhmaaGreatDoorRgSt
import Derived.Test.YtopjjknojnfhmaaGreatDoorRgMk
namespace Go.Proofs.YtopjjknojnfhmaaGreatDoor
set_option maxRecDepth 8000
set_option maxHeartbeats 40000000
open Go.RowKit Go.Deep
theorem Tryz.jB:Tryz.prog.elem 23=41:=by kernel_rfl
theorem Tryz.dG:Tryz.prog.underlying 23=some (.slice (Tryz.prog.elem 23)):=by rw[Tryz.jB];exact Tryz.cn
structure Qt (w:World) (b0:Nat) (lv:Value) (xs:List Value) (W:World):Prop where
 bel:Bel w W
 box:al W b0 25 [lv]
 arg:aS W (b0+1) xs
 res:al W (b0+2) 25 [.slice none 0 0]
theorem Qt.later {w W W':World} {b0:Nat} {lv:Value} {xs:List Value} (h:Qt w b0 lv xs W) (hb:Bel W W'):Qt w b0 lv xs W':=⟨ah h.bel hb,h.box.later hb,h.arg.later hb,h.res.later hb⟩
structure QtK (w:World) (b0:Nat) (n:Nat) (u:Value) (G:List Nat) (es:List Dt) (xs:List Value) (W:World):Prop where
 form:∃ g cap,u=.slice (some ⟨g,0,none⟩) (n+1) cap
 bel:Bel w W
 box:al W b0 25 [u]
 res:al W (b0+2) 25 [.slice none 0 0]
 row:W.ownsRow (b0+3) 41 3 u (n+1) xs
 rep:Rep W false (bf (n+1) ak) G es xs
theorem QtK.mk' {w Y:World} {b0 lo n g cap:Nat} {lv:Value} {G:List Nat} {es:List Dt} {xs ys:List Value} (hb:b0=w.heap.size) (h:Qt w b0 lv ys Y) (bR:b0+3≤lo) (ho:Y.ownsRow lo 41 3 (.slice (some ⟨g,0,none⟩) (n+1) cap) (n+1) xs) (hr:Rep Y false (bf (n+1) ak) G es xs) (hG:∀ b∈G,b<b0):
  QtK w b0 n (.slice (some ⟨g,0,none⟩) (n+1) cap) G es xs (Y.setCell ⟨b0,0,none⟩ (.slice (some ⟨g,0,none⟩) (n+1) cap)):=by
 have hm:Marks (fun b=>b=b0) Y (Y.setCell ⟨b0,0,none⟩ (.slice (some ⟨g,0,none⟩) (n+1) cap)):=Marks.sc (S:=fun b=>b=b0) Y rfl 0 _;exact⟨⟨g,cap,rfl⟩,hm.below (fun b e=>by omega) h.bel,h.box.set 0 _ (by simp),h.res.other (by omega) _ _,dE (pd ho bR) hm fun b hb e=>by omega,hr.bo hm fun b hb e=>by have:=hG b hb;omega⟩
theorem QtK.ans {w W we:World} {b0 n g cap:Nat} {G:List Nat} {l:List Pl.Bl} {xs:List Value} {S:Nat→Prop} (h:QtK w b0 n (.slice (some ⟨g,0,none⟩) (n+1) cap) G (l.flatMap blD) xs W) (hb:b0=w.heap.size) (hm:Marks (fun b=>b=b0+2) W we) (hG:∀ b∈G,b<b0) (hl:l.length=n+1) (hS:∀ b∈G,S b):
  Cc eU [bD l] S w (.returned (.agg #[.slice (some ⟨g,0,none⟩) (n+1) cap])) we:=by
 obtain⟨F,r,hF⟩:=uB (sh:=ak) (dE h.row hm fun b hb e=>by omega) (h.rep.bo hm fun b hb e=>by have:=hG b hb;omega);refine⟨[.slice (some ⟨g,0,none⟩) (n+1) cap],F++[],rfl, ?_,fun b hb=> ?_,hm.below (fun b e=>by omega) h.bel⟩
 ·unfold bD;rw[hl];exact nj r
 ·rw[List.append_nil]at hb;rcases hF b hb with q|q
  ·exact Or.inr (by omega)
  ·exact Or.inl (hS b q)
def VIb (lv s1 s2:Value) (k b0:Nat) (X:Array Value):Nat→Value→Prop
 |1,u|9,u|14,u=>u=.pointer (some ⟨b0,0,none⟩)
 |2,u|10,u=>u=lv
 |3,u|11,u=>u=.int .i64 (k:Int)
 |4,u=>u=s1
 |6,u=>u=.agg X
 |12,u=>u=s2
 |_,_=>True
def VQa (va:Option Addr) (vc:Nat) (n:Nat) (k:Nat) (b0:Nat) (jj:Nat) (u:Value) (_:World):Prop:=match jj with
 |0=>u=.int .i64 (k:Int)
 |1=>u=.pointer (some ⟨b0,0,none⟩)
 |2=>u=.slice va n vc
 |3=>u=.int .i64 (n:Int)
 |4|5|13=>u=.bool false
 |6|7|8|9|10|11|12=>u=undef
 |_=>True
theorem Em (va:Option Addr) (vc:Nat) (n:Nat) (k:Nat) (b0:Nat):∀ jj u W W',Bel W W'→VQa va vc n k b0 jj u W→VQa va vc n k b0 jj u W':=fun _ _ _ _ _ h=>h
def VQb (x:Pl.Bl) (y:Pl.Bl) (va:Option Addr) (xa:Option Addr) (ya:Option Addr) (vc:Nat) (xc:Nat) (yc:Nat) (p:Nat) (o:Nat) (n:Nat) (k:Nat) (b0:Nat) (jj:Nat) (u:Value) (_:World):Prop:=match jj with
 |0|8=>u=.int .i64 (k:Int)
 |1|6=>u=.pointer (some ⟨b0,0,none⟩)
 |2|7=>u=.slice va n vc
 |3=>u=.int .i64 (n:Int)
 |4|5|12|13=>u=.bool true
 |9=>u=.pointer (some ⟨p,o+k*3,none⟩)
 |10=>u=.agg #[.string y.kind,.string y.name,.slice ya y.lines.length yc]
 |11=>u=.agg #[.string x.kind,.string x.name,.slice xa x.lines.length xc]
 |_=>True
theorem Dy (x:Pl.Bl) (y:Pl.Bl) (va:Option Addr) (xa:Option Addr) (ya:Option Addr) (vc:Nat) (xc:Nat) (yc:Nat) (p:Nat) (o:Nat) (n:Nat) (k:Nat) (b0:Nat):∀ jj u W W',Bel W W'→VQb x y va xa ya vc xc yc p o n k b0 jj u W→VQb x y va xa ya vc xc yc p o n k b0 jj u W':=fun _ _ _ _ _ h=>h
def VQc (x:Pl.Bl) (y:Pl.Bl) (va:Option Addr) (xa:Option Addr) (ya:Option Addr) (vc:Nat) (xc:Nat) (yc:Nat) (p:Nat) (o:Nat) (n:Nat) (k:Nat) (b0:Nat) (jj:Nat) (u:Value) (_:World):Prop:=match jj with
 |0|8=>u=.int .i64 (k:Int)
 |1|6=>u=.pointer (some ⟨b0,0,none⟩)
 |2|7=>u=.slice va n vc
 |3=>u=.int .i64 (n:Int)
 |4|5=>u=.bool true
 |9=>u=.pointer (some ⟨p,o+k*3,none⟩)
 |10=>u=.agg #[.string y.kind,.string y.name,.slice ya y.lines.length yc]
 |11=>u=.agg #[.string x.kind,.string x.name,.slice xa x.lines.length xc]
 |12|13=>u=.bool false
 |_=>True
theorem Dw (x:Pl.Bl) (y:Pl.Bl) (va:Option Addr) (xa:Option Addr) (ya:Option Addr) (vc:Nat) (xc:Nat) (yc:Nat) (p:Nat) (o:Nat) (n:Nat) (k:Nat) (b0:Nat):∀ jj u W W',Bel W W'→VQc x y va xa ya vc xc yc p o n k b0 jj u W→VQc x y va xa ya vc xc yc p o n k b0 jj u W':=fun _ _ _ _ _ h=>h
theorem sP (s:List Pl.Bl) (x:Pl.Bl) (lv wv:Value) (F Fx:List Nat) (w:World) (h:Rep w false bu F [bD s] [lv]) (hx:Rep w false bF Fx [bT x.lines] [wv]) (hl:s.length≤4194304):
  Calls Tryz.prog 16 #[.agg #[lv],.agg #[.string x.kind,.string x.name,wv]] w (Cc eU [bD (Pl.dO s x)] (fun q=>q∈F∨q∈Fx) w):=by
 obtain⟨i0,gF,ga,dJ,gH⟩:=ji Tryz.i9;obtain⟨va,vc,ev⟩:=h.raw.bm;obtain⟨xa,xc,ex⟩:=hx.raw.bm;subst ev;subst ex;obtain⟨n,hn⟩:∃ n,n=s.length:=⟨_,rfl⟩
 have HN:=uh hn;have B5:n≤4194304:=by omega
 obtain⟨b0,cd⟩:∃ b0,b0=w.heap.size:=⟨_,rfl⟩
 have kW:=uh cd;have Le:Hid (∀ q∈F,q<b0):=fun q hq=>by rw[cd];exact h.lt q hq
 have IH:Hid (∀ q∈Fx++[],q<b0):=fun q hq=>by rw[cd];rw[List.append_nil]at hq;exact hx.lt q hq
 have M5:=uh hx;have OG:Hid (Rep w false ak (Fx++[]) (blD x) [.string x.kind,.string x.name,.slice xa x.lines.length xc]):=bG x.kind x.name hx;have HL:=uh h;rw[← hn];rw[← hn]at HL;clear h hx hl hn;obtain⟨wa,aZ⟩:∃ wa,wa=((w.alloc (.cells #[.slice va n vc] 25)).alloc (.cells #[.string x.kind,.string x.name,.slice xa x.lines.length xc] 41)).alloc (.cells #[.slice none 0 0] 25):=⟨_,rfl⟩
 have H0:Hid (Qt w b0 (.slice va n vc) [.string x.kind,.string x.name,.slice xa x.lines.length xc] wa):=by
  show Qt _ _ _ _ _;refine⟨?_, ?_, ?_, ?_⟩
  ·rw[aZ];exact ae (ae (ae zR _) _) _
  ·rw[aZ,cd];exact(al.new w [.slice va n vc] 25 _ rfl).later (ae (ae zR _) _)
  ·rw[aZ,cd];exact(aS.new (w.alloc (.cells #[.slice va n vc] 25)) #[.string x.kind,.string x.name,.slice xa x.lines.length xc] 41 _ (by simp)).lf _
  ·rw[aZ,cd];exact al.new ((w.alloc (.cells #[.slice va n vc] 25)).alloc (.cells #[.string x.kind,.string x.name,.slice xa x.lines.length xc] 41)) [.slice none 0 0] 25 _ (by simp)
 go_enter Tryz.func16,Tryz.ntmps16
 go_upto_region 1 with fail
 rw[← aZ,← cd];clear aZ cd;go_wp2;go_loopw [5] (fun vi wr=>∃ k:Nat,k≤n∧vi=.int .i64 k∧Qt w b0 (.slice va n vc) [.string x.kind,.string x.name,.slice xa x.lines.length xc] wr∧∀ j,j<k→Pl.ahead (s.getD j Pl.aN) x=true) (fun vi _=>n - (intOf vi).toNat)
 case atStart=>exact⟨0,zN,rfl,H0.out,fun j hj=>absurd hj (by omega)⟩
 case round=>
  obtain⟨k,hk,rfl,hO,hI⟩:=hrel;have HO:=uh hO;have HI:=uh hI;have OP:=uh (fun hh=>Pl.vz Pl.aN (fun y=>Pl.ahead y x) s x k (by have:=HN.out;omega) hI hh);clear hO hI H0;by_cases bd:k<n
  rotate_left
  ·have Hs:¬ ((k:Int)<(n:Int)):=by omega
   have qd:Hid (Pl.dO s x=s.take k++x::s.drop k):=OP.out (Or.inl (by have:=HN.out;omega));have je:Hid ((Pl.dO s x).length=n+1):=by show _=_;rw[qd.out,List.length_append,List.length_cons,List.length_take,List.length_drop];have:=HN.out;omega
   go_upto_region 2 with fail
   refine RY.aH wr zR (VQa va vc n k b0) (Em _ _ _ _ _) (by kernel_rfl) (by kernel_rfl) (by kernel_rfl) (by kernel_rfl) ?_ ?_
   ·intro i o' ho a X hX hk hd;have z2:=(HO.out.box.later hX).get 0 _ rfl;have rx:=(HO.out.arg.later hX).at_;match i,ho with
    |0,rfl=>
     exact RY.n (RY.p (.int .i64 (k:Int)) (by simp[execOp,go_sem,RY.K hk 5 (.int .i64 (k:Int))]))
    |1,rfl=>
     exact RY.n (RY.p (.pointer (some ⟨b0,0,none⟩)) (by simp[execOp,go_sem,RY.K hk 2 (.pointer (some ⟨b0,0,none⟩))]))
    |2,rfl=>
     exact RY.n (RY.p (.slice va n vc) (by simp[execOp,go_sem,RY.E hd 1 7,z2]))
    |3,rfl=>
     exact RY.n (RY.p (.int .i64 (n:Int)) (by simp[go_sem,RY.E hd 2 8]))
    |4,rfl=>
     exact RY.n (RY.p (.bool false) (by simp[execOp,go_sem,RY.E hd 0 6,RY.E hd 3 9,Hs]))
    |5,rfl=>
     exact RY.n (RY.p (.bool false) (by simp[execOp,go_sem,RY.E hd 4 10]))
    |6,rfl|7,rfl|8,rfl|9,rfl|10,rfl|11,rfl|12,rfl=>
     exact RY.off hd 5 11
    |13,rfl=>
     exact RY.n (RY.p (.bool false) (by simp[execOp,go_sem,RY.E hd 5 11,RY.E hd 12 18]))
    |n+14,ho=>simp at ho
   intro X vs hX bg;have q19:vs 19=_:=bg 13 _ 19 rfl rfl;simp only[RY.aC,Act.put,List.setIfInBounds_toArray,List.set_cons_zero,List.set_cons_succ];rw[q19];generalize vs 6=s6,vs 7=s7,vs 8=s8,vs 9=s9,vs 10=s10,vs 11=s11,vs 12=s12,vs 13=s13,vs 14=s14,vs 15=s15,vs 16=s16,vs 17=s17,vs 18=s18;clear bg q19;have fO:=uh (HO.out.later hX);clear hX HO;obtain⟨lv,wD⟩:∃ z,z=Value.slice va n vc:=⟨_,rfl⟩
   have nC:Hid (Rep X false bu F [bD s] [lv]):=by show Rep _ _ _ _ _ _;rw[wD];exact HL.out.later fO.out.bel
   rw[← wD]at fO;clear wD;obtain⟨s1,s2,vs,G,hR,vV,ko,tQ,kg,tM⟩:=nZ (P:=Tryz.prog) (t:=23) Tryz.dG (Tryz.jB ▸ gF) dJ nC.out k (by have:=HN.out;omega);obtain⟨G2,eR,yB⟩:=og (sh:=ak) blD lE (k:=k) (x:=x) (by have:=HN.out;omega) hR (OG.out.later fO.out.bel);have fQ:vs.length=n*3:=by rw[hR.len,bj,← HN.out];rfl
   have LW:k*3≤n*3:=by omega
   rw[← qd.out]at eR;rw[← HN.out]at eR tQ;have yn:=uh kg;have wK:=uh tM;have tw:=uh ko;have lP:=uh tQ;have oD:Hid (∀ b∈G2,b<b0):=fun b hb=>by rcases yB b hb with h|h;exact Le.out b (vV b h);exact IH.out b h
   have E9:=uh yB;have Ml:=uh vV;have gW:=uh eR;clear kg tM ko tQ hR vV eR yB nC;go_upto_region 4 with fail
   refine RY.iO X zR 41 3 k (k+1) (n+1) (vs.take (k*3)) (vs.take (k*3)++[.string x.kind,.string x.name,.slice xa x.lines.length xc]) (vs.take (k*3)++[.string x.kind,.string x.name,.slice xa x.lines.length xc]++vs.drop (k*3)) #[.string x.kind,.string x.name,.slice xa x.lines.length xc] (VIb lv s1 s2 k b0 #[.string x.kind,.string x.name,.slice xa x.lines.length xc]) (fun u W'=>QtK w b0 n u G2 ((Pl.dO s x).flatMap blD) (vs.take (k*3)++[.string x.kind,.string x.name,.slice xa x.lines.length xc]++vs.drop (k*3)) W') 12 22 27 29 30 35 36 (by kernel_rfl) (by kernel_rfl) (by kernel_rfl) (by kernel_rfl) (by kernel_rfl) rfl (by kernel_rfl) _ _ _ _ _ _ _ rfl rfl rfl rfl rfl rfl rfl rfl rfl rfl rfl rfl rfl rfl (by kernel_rfl) (by kernel_rfl) (by kernel_rfl) (by kernel_rfl) (by kernel_rfl) (by kernel_rfl) ?_ ?_ ?_ ?_ ?_ ?_ ?_ ?_ ?_
   ·intro i u h;rcases h with rfl|rfl|rfl|rfl|rfl<;>exact trivial
   ·intro i o' ho n0 n5 n7 n8 n13 n15 a Y hY hk hd;have z2:=(fO.out.box.later hY).get 0 _ rfl;have rx:=(fO.out.arg.later hY).at_;match i,ho with
    |0,ho=>exact absurd rfl n0
    |1,rfl|9,rfl|14,rfl=>
     exact⟨.pointer (some ⟨b0,0,none⟩),by simp[execOp,go_sem,RY.K hk 2 (.pointer (some ⟨b0,0,none⟩))],rfl⟩
    |2,rfl=>
     have e23:a.tmps[23]?.getD undef=_:=(RY.af a 23).trans (hd 1 _ 23 rfl rfl ⟨⟨1,.data⟩,by simp,rfl,rfl⟩);exact⟨lv,by simp[execOp,go_sem,e23,z2],rfl⟩
    |3,rfl|11,rfl=>
     exact⟨.int .i64 (k:Int),by simp[execOp,go_sem,RY.K hk 5 (.int .i64 (k:Int))],rfl⟩
    |4,rfl=>
     have f24:a.eval (.tmp 24)=lv:=hd 2 _ 24 rfl rfl ⟨⟨2,.data⟩,by simp,rfl,rfl⟩;have f25:a.eval (.tmp 25)=.int .i64 (k:Int):=hd 3 _ 25 rfl rfl ⟨⟨3,.data⟩,by simp,rfl,rfl⟩;exact⟨s1,by simp[execOp,f24,f25,run_sliceAt_slice (P:=Tryz.prog) (w:=Y) 23 lv none (some (.int .i64 (k:Int))) none Tryz.dG,yn.out],rfl⟩
    |5,ho=>exact absurd rfl n5
    |6,rfl=>
     exact⟨.agg #[.string x.kind,.string x.name,.slice xa x.lines.length xc],ar 41 _ rfl (b0+1) 0 ((RY.af a 3).symm.trans (RY.K hk 3 (.pointer (some ⟨b0+1,0,none⟩)))) [.string x.kind,.string x.name,.slice xa x.lines.length xc] _ rx Tryz.underlying41 rfl (by kernel_rfl),rfl⟩
    |7,ho=>exact absurd rfl n7
    |8,ho=>exact absurd rfl n8
    |10,rfl=>
     have e31:a.tmps[31]?.getD undef=_:=(RY.af a 31).trans (hd 9 _ 31 rfl rfl ⟨⟨9,.data⟩,by simp,rfl,rfl⟩);exact⟨lv,by simp[execOp,go_sem,e31,z2],rfl⟩
    |12,rfl=>
     have f32:a.eval (.tmp 32)=lv:=hd 10 _ 32 rfl rfl ⟨⟨10,.data⟩,by simp,rfl,rfl⟩;have f33:a.eval (.tmp 33)=.int .i64 (k:Int):=hd 11 _ 33 rfl rfl ⟨⟨11,.data⟩,by simp,rfl,rfl⟩;exact⟨s2,by simp[execOp,f32,f33,run_sliceAt_slice (P:=Tryz.prog) (w:=Y) 23 lv (some (.int .i64 (k:Int))) none none Tryz.dG,wK.out],rfl⟩
    |13,ho=>exact absurd rfl n13
    |15,ho=>exact absurd rfl n15
    |n+16,ho=>simp at ho
   ·intro a Y;simp[execOp,go_sem]
   ·intro a Y hd;have e28:a.tmps[28]?.getD undef=_:=(RY.af a 28).trans (hd 6 _ 28 rfl rfl ⟨⟨6,.data⟩,by simp,rfl,rfl⟩);simp[execOp,go_sem,e28]
   ·intro a Y hY hd ho;have e26:=hd 4 _ 26 rfl rfl ⟨⟨4,.data⟩,by simp,rfl,rfl⟩;obtain⟨u,W',hr,hA⟩:=gU 23 23 41 i0 _ 3 56 Tryz.cn gF ga dJ gH rfl (by decide) tw.out hY ho (by unfold maxLen;omega) (by omega);rw[Nat.zero_add,List.nil_append]at hA;exact⟨u,W',aQ (.tmp 22) (.tmp 26) 23 rfl rfl e26 hr,hA⟩
   ·intro a Y hY ho q eq hq;obtain⟨u,W',hr,h2,h3,_,h5⟩:=run_append_own_at (P:=Tryz.prog) Y X.heap.size 23 23 41 i0 _ 3 56 Tryz.cn gF ga dJ gH rfl (by decide) _ k _ ho ⟨q,0,none⟩ 1 1 [.string x.kind,.string x.name,.slice xa x.lines.length xc] rfl (fun j y hy=>by rw[Addr.add_mid,Nat.zero_add];simp only[World.cell?,hq];simpa using hy) (by simp[Value.oneCell']) (by unfold maxLen;omega) (by omega) hY.size;exact⟨u,W',aQ (.tmp 27) (.tmp 29) 23 rfl rfl eq hr,h2,h3,h5⟩
   ·intro a Y hY hd ho;have e34:=hd 12 _ 34 rfl rfl ⟨⟨12,.data⟩,by simp,rfl,rfl⟩;obtain⟨u,W',hr,hA⟩:=gU 23 23 41 i0 _ 3 56 Tryz.cn gF ga dJ gH rfl (by decide) lP.out hY ho (by unfold maxLen;omega) (by omega);have en:k+1+(n - k)=n+1:=by omega
    rw[en]at hA;exact⟨u,W',aQ (.tmp 30) (.tmp 34) 23 rfl rfl e34 hr,hA⟩
   ·intro a Y hY K6 ho;obtain⟨g,cap,eu,_,_⟩:=ho.form (by omega);have t35:=(RY.af a 35).trans eu;have t36:a.tmps[36]?.getD undef=_:=(RY.af a 36).trans K6;have B1:=fO.out.box.later hY;have z2:=B1.get 0 _ rfl;have zf:=B1.own.frozen 0;refine⟨Y.setCell ⟨b0,0,none⟩ (.slice (some ⟨g,0,none⟩) (n+1) cap),by simp[execOp,go_sem,t35,t36,z2,zf], ?_⟩;rw[eu]at ho ⊢;exact QtK.mk' kW.out (fO.out.later hY) (by have:=fO.out.res.own.lt;omega) ho (gW.out.later hY) oD.out
   ·rintro vals W hK;simp only[RY.aC,Act.put,List.setIfInBounds_toArray,List.set_cons_zero,List.set_cons_succ];generalize vals 22=s22;generalize vals 23=s23;generalize vals 24=s24;generalize vals 25=s25;generalize vals 26=s26;generalize vals 27=s27;generalize vals 28=s28;generalize vals 29=s29;generalize vals 30=s30;generalize vals 31=sr;generalize vals 32=qw;generalize vals 33=qM;generalize vals 34=qX;generalize vals 35=lN at hK ⊢;generalize vals 36=lI;obtain⟨g,cap,eu⟩:=hK.form;subst eu;have HK:=uh hK;clear hK fO yn wK tw lP gW;go_upto_region 5 with fail
    have mN:=HK.out.box.at_;have gD:=HK.out.box.own.lt;have oG:=HK.out.res.own.lt;have cp:W.there (b0+2) 0 (#[.slice (some ⟨g,0,none⟩) (n+1) cap]:Array Value).size:=aR HK.out.res.own _ _ (by simp);obtain⟨we,bM⟩:∃ we,we=W.setCells (b0+2) 0 [.slice (some ⟨g,0,none⟩) (n+1) cap]:=⟨_,rfl⟩
    have fT:we.rangeAt (b0+2) 0 [.slice (some ⟨g,0,none⟩) (n+1) cap]:=by rw[bM];exact World.rangeAt_setCells_same _ _ _ _ cp
    have nO:Hid (Marks (fun b=>b=b0+2) W we):=by show Marks _ _ _;rw[bM];exact aM (S:=fun b=>b=b0+2) rfl _ _ _
    go_wp2_with (first|(refine wpList_load_mid rfl 25 _ rfl b0 0 rfl [.slice (some ⟨g,0,none⟩) (n+1) cap] _ mN Tryz.underlying25 rfl (by kernel_rfl) ?_)|(refine wpList_store_mid rfl 25 _ _ rfl (b0+2) 0 #[.slice (some ⟨g,0,none⟩) (n+1) cap] rfl rfl cp (by kernel_rfl) (by simp[Value.oneCell']) ?_))
    first|rw[← bM]|(simp only[List.toList_toArray];rw[← bM])
    try simp only[Act.put]
    refine bodyPost_ret (v:=.agg #[.slice (some ⟨g,0,none⟩) (n+1) cap]) (by simp[results,Tryz.results16,asAddr,run_loadVar_mid (P:=Tryz.prog) _ _ _ 25 [.slice (some ⟨g,0,none⟩) (n+1) cap] _ fT Tryz.underlying25 rfl (by kernel_rfl)]) rfl ?_;exact HK.out.ans kW.out nO.out oD.out je.out (fun b hb=>by rcases E9.out b hb with h|h;exact Or.inl (Ml.out b h);exact Or.inr (by simpa using h))
  have iF:k<s.length:=by have:=HN.out;omega
  rcases db (HL.out.later HO.out.bel).raw with⟨e0,_⟩|⟨p,o,c,hv,hp,fK,aO⟩
  ·omega
  rw[← HN.out]at hv;injection hv with g1 _ g3
  subst g1;subst g3;obtain⟨ya,yc,nx,qP⟩:=aO k iF;obtain⟨y,hy⟩:∃ y,y=s.getD k Pl.aN:=⟨_,rfl⟩
  rw[← hy]at nx qP;have HY:=uh hy;have FN:=uh nx;have fB:=uh hp;have B8:=uh (M5.out.later HO.out.bel);have Jg:=uh qP;have Hs:(k:Int)<(n:Int):=by omega
  have ec:(0:Int)≤(k:Int):=by omega
  have dP:(k:Int)<(n:Int):=by omega
  clear hy nx qP hp aO fK;cases gJ:Pl.ahead y x
  ·have nK:Hid (∀ X,Bel wr X→Calls Tryz.prog 30 #[.agg #[.string y.kind,.string y.name,.slice ya y.lines.length yc],.agg #[.string x.kind,.string x.name,.slice xa x.lines.length xc]] X fun e w'=>e=.returned (.bool false)∧Bel X w'):=fun X hX=>by
    have:=l4 y x (.slice ya y.lines.length yc) (.slice xa x.lines.length xc) X;rwa [gJ]at this
   have qd:Hid (Pl.dO s x=s.take k++x::s.drop k):=OP.out (Or.inr (by rw[← HY.out];exact gJ));have je:Hid ((Pl.dO s x).length=n+1):=by show _=_;rw[qd.out,List.length_append,List.length_cons,List.length_take,List.length_drop];have:=HN.out;omega
   go_upto_region 2 with fail
   refine RY.aH wr zR (VQc x y (some ⟨p,o,none⟩) xa ya vc xc yc p o n k b0) (Dw _ _ _ _ _ _ _ _ _ _ _ _ _) (by kernel_rfl) (by kernel_rfl) (by kernel_rfl) (by kernel_rfl) ?_ ?_
   ·intro i o' ho a X hX hk hd;have z2:=(HO.out.box.later hX).get 0 _ rfl;have rx:=(HO.out.arg.later hX).at_;have ry:=aB FN.out fB.out hX;match i,ho with
    |0,rfl=>
     exact RY.n (RY.p (.int .i64 (k:Int)) (by simp[execOp,go_sem,RY.K hk 5 (.int .i64 (k:Int))]))
    |1,rfl=>
     exact RY.n (RY.p (.pointer (some ⟨b0,0,none⟩)) (by simp[execOp,go_sem,RY.K hk 2 (.pointer (some ⟨b0,0,none⟩))]))
    |2,rfl=>
     exact RY.n (RY.p (.slice (some ⟨p,o,none⟩) n vc) (by simp[execOp,go_sem,RY.E hd 1 7,z2]))
    |3,rfl=>
     exact RY.n (RY.p (.int .i64 (n:Int)) (by simp[go_sem,RY.E hd 2 8]))
    |4,rfl=>
     exact RY.n (RY.p (.bool true) (by simp[execOp,go_sem,RY.E hd 0 6,RY.E hd 3 9,Hs]))
    |5,rfl=>
     exact RY.n (RY.p (.bool true) (by simp[execOp,go_sem,RY.E hd 4 10]))
    |6,rfl=>
     exact RY.on hd 5 11 (RY.p (.pointer (some ⟨b0,0,none⟩)) (by simp[execOp,go_sem,RY.K hk 2 (.pointer (some ⟨b0,0,none⟩))]))
    |7,rfl=>
     exact RY.on hd 5 11 (RY.p (.slice (some ⟨p,o,none⟩) n vc) (by simp[execOp,go_sem,RY.E hd 6 12,z2]))
    |8,rfl=>
     exact RY.on hd 5 11 (RY.p (.int .i64 (k:Int)) (by simp[execOp,go_sem,RY.K hk 5 (.int .i64 (k:Int))]))
    |9,rfl=>
     exact RY.on hd 5 11 (RY.p (.pointer (some ⟨p,o+k*3,none⟩)) (by simp[execOp,go_sem,RY.E hd 7 13,RY.E hd 8 14,ec,dP]))
    |10,rfl=>
     have gd:=hd 5 _ 11 rfl rfl ⟨⟨5,.guard⟩,by simp,rfl,rfl⟩;exact Or.inl ⟨(RY.aj rfl rfl rfl gd).trans rfl,Or.inl ⟨.agg #[.string y.kind,.string y.name,.slice ya y.lines.length yc],X,ar 41 _ rfl p (o+k*3) ((RY.af a 15).symm.trans (RY.E hd 9 15)) [.string y.kind,.string y.name,.slice ya y.lines.length yc] _ ry Tryz.underlying41 rfl (by kernel_rfl),zR,rfl⟩⟩
    |11,rfl=>
     have gd:=hd 5 _ 11 rfl rfl ⟨⟨5,.guard⟩,by simp,rfl,rfl⟩;exact Or.inl ⟨(RY.aj rfl rfl rfl gd).trans rfl,Or.inl ⟨.agg #[.string x.kind,.string x.name,.slice xa x.lines.length xc],X,ar 41 _ rfl (b0+1) 0 ((RY.af a 3).symm.trans (RY.K hk 3 (.pointer (some ⟨b0+1,0,none⟩)))) [.string x.kind,.string x.name,.slice xa x.lines.length xc] _ rx Tryz.underlying41 rfl (by kernel_rfl),zR,rfl⟩⟩
    |12,rfl=>
     have e16:=RY.E hd 10 16;have e17:=RY.E hd 11 17;refine RY.on hd 5 11 (.inr ⟨30,#[.agg #[.string y.kind,.string y.name,.slice ya y.lines.length yc],.agg #[.string x.kind,.string x.name,.slice xa x.lines.length xc]],by simp[go_sem,e16,e17],(nK.out X hX).mono ?_⟩);rintro e W' ⟨rfl,hb⟩;exact⟨_,rfl,hb,rfl⟩
    |13,rfl=>
     exact RY.n (RY.p (.bool false) (by simp[execOp,go_sem,RY.E hd 5 11,RY.E hd 12 18]))
    |n+14,ho=>simp at ho
   intro X vs hX bg;have q19:vs 19=_:=bg 13 _ 19 rfl rfl;simp only[RY.aC,Act.put,List.setIfInBounds_toArray,List.set_cons_zero,List.set_cons_succ];rw[q19];generalize vs 6=s6,vs 7=s7,vs 8=s8,vs 9=s9,vs 10=s10,vs 11=s11,vs 12=s12,vs 13=s13,vs 14=s14,vs 15=s15,vs 16=s16,vs 17=s17,vs 18=s18;clear bg q19;have fO:=uh (HO.out.later hX);clear hX HO;obtain⟨lv,wD⟩:∃ z,z=Value.slice (some ⟨p,o,none⟩) n vc:=⟨_,rfl⟩
   have nC:Hid (Rep X false bu F [bD s] [lv]):=by show Rep _ _ _ _ _ _;rw[wD];exact HL.out.later fO.out.bel
   rw[← wD]at fO;clear wD;obtain⟨s1,s2,vs,G,hR,vV,ko,tQ,kg,tM⟩:=nZ (P:=Tryz.prog) (t:=23) Tryz.dG (Tryz.jB ▸ gF) dJ nC.out k (by have:=HN.out;omega);obtain⟨G2,eR,yB⟩:=og (sh:=ak) blD lE (k:=k) (x:=x) (by have:=HN.out;omega) hR (OG.out.later fO.out.bel);have fQ:vs.length=n*3:=by rw[hR.len,bj,← HN.out];rfl
   have LW:k*3≤n*3:=by omega
   rw[← qd.out]at eR;rw[← HN.out]at eR tQ;have yn:=uh kg;have wK:=uh tM;have tw:=uh ko;have lP:=uh tQ;have oD:Hid (∀ b∈G2,b<b0):=fun b hb=>by rcases yB b hb with h|h;exact Le.out b (vV b h);exact IH.out b h
   have E9:=uh yB;have Ml:=uh vV;have gW:=uh eR;clear kg tM ko tQ hR vV eR yB nC;go_upto_region 4 with fail
   refine RY.iO X zR 41 3 k (k+1) (n+1) (vs.take (k*3)) (vs.take (k*3)++[.string x.kind,.string x.name,.slice xa x.lines.length xc]) (vs.take (k*3)++[.string x.kind,.string x.name,.slice xa x.lines.length xc]++vs.drop (k*3)) #[.string x.kind,.string x.name,.slice xa x.lines.length xc] (VIb lv s1 s2 k b0 #[.string x.kind,.string x.name,.slice xa x.lines.length xc]) (fun u W'=>QtK w b0 n u G2 ((Pl.dO s x).flatMap blD) (vs.take (k*3)++[.string x.kind,.string x.name,.slice xa x.lines.length xc]++vs.drop (k*3)) W') 12 22 27 29 30 35 36 (by kernel_rfl) (by kernel_rfl) (by kernel_rfl) (by kernel_rfl) (by kernel_rfl) rfl (by kernel_rfl) _ _ _ _ _ _ _ rfl rfl rfl rfl rfl rfl rfl rfl rfl rfl rfl rfl rfl rfl (by kernel_rfl) (by kernel_rfl) (by kernel_rfl) (by kernel_rfl) (by kernel_rfl) (by kernel_rfl) ?_ ?_ ?_ ?_ ?_ ?_ ?_ ?_ ?_
   ·intro i u h;rcases h with rfl|rfl|rfl|rfl|rfl<;>exact trivial
   ·intro i o' ho n0 n5 n7 n8 n13 n15 a Y hY hk hd;have z2:=(fO.out.box.later hY).get 0 _ rfl;have rx:=(fO.out.arg.later hY).at_;match i,ho with
    |0,ho=>exact absurd rfl n0
    |1,rfl|9,rfl|14,rfl=>
     exact⟨.pointer (some ⟨b0,0,none⟩),by simp[execOp,go_sem,RY.K hk 2 (.pointer (some ⟨b0,0,none⟩))],rfl⟩
    |2,rfl=>
     have e23:a.tmps[23]?.getD undef=_:=(RY.af a 23).trans (hd 1 _ 23 rfl rfl ⟨⟨1,.data⟩,by simp,rfl,rfl⟩);exact⟨lv,by simp[execOp,go_sem,e23,z2],rfl⟩
    |3,rfl|11,rfl=>
     exact⟨.int .i64 (k:Int),by simp[execOp,go_sem,RY.K hk 5 (.int .i64 (k:Int))],rfl⟩
    |4,rfl=>
     have f24:a.eval (.tmp 24)=lv:=hd 2 _ 24 rfl rfl ⟨⟨2,.data⟩,by simp,rfl,rfl⟩;have f25:a.eval (.tmp 25)=.int .i64 (k:Int):=hd 3 _ 25 rfl rfl ⟨⟨3,.data⟩,by simp,rfl,rfl⟩;exact⟨s1,by simp[execOp,f24,f25,run_sliceAt_slice (P:=Tryz.prog) (w:=Y) 23 lv none (some (.int .i64 (k:Int))) none Tryz.dG,yn.out],rfl⟩
    |5,ho=>exact absurd rfl n5
    |6,rfl=>
     exact⟨.agg #[.string x.kind,.string x.name,.slice xa x.lines.length xc],ar 41 _ rfl (b0+1) 0 ((RY.af a 3).symm.trans (RY.K hk 3 (.pointer (some ⟨b0+1,0,none⟩)))) [.string x.kind,.string x.name,.slice xa x.lines.length xc] _ rx Tryz.underlying41 rfl (by kernel_rfl),rfl⟩
    |7,ho=>exact absurd rfl n7
    |8,ho=>exact absurd rfl n8
    |10,rfl=>
     have e31:a.tmps[31]?.getD undef=_:=(RY.af a 31).trans (hd 9 _ 31 rfl rfl ⟨⟨9,.data⟩,by simp,rfl,rfl⟩);exact⟨lv,by simp[execOp,go_sem,e31,z2],rfl⟩
    |12,rfl=>
     have f32:a.eval (.tmp 32)=lv:=hd 10 _ 32 rfl rfl ⟨⟨10,.data⟩,by simp,rfl,rfl⟩;have f33:a.eval (.tmp 33)=.int .i64 (k:Int):=hd 11 _ 33 rfl rfl ⟨⟨11,.data⟩,by simp,rfl,rfl⟩;exact⟨s2,by simp[execOp,f32,f33,run_sliceAt_slice (P:=Tryz.prog) (w:=Y) 23 lv (some (.int .i64 (k:Int))) none none Tryz.dG,wK.out],rfl⟩
    |13,ho=>exact absurd rfl n13
    |15,ho=>exact absurd rfl n15
    |n+16,ho=>simp at ho
   ·intro a Y;simp[execOp,go_sem]
   ·intro a Y hd;have e28:a.tmps[28]?.getD undef=_:=(RY.af a 28).trans (hd 6 _ 28 rfl rfl ⟨⟨6,.data⟩,by simp,rfl,rfl⟩);simp[execOp,go_sem,e28]
   ·intro a Y hY hd ho;have e26:=hd 4 _ 26 rfl rfl ⟨⟨4,.data⟩,by simp,rfl,rfl⟩;obtain⟨u,W',hr,hA⟩:=gU 23 23 41 i0 _ 3 56 Tryz.cn gF ga dJ gH rfl (by decide) tw.out hY ho (by unfold maxLen;omega) (by omega);rw[Nat.zero_add,List.nil_append]at hA;exact⟨u,W',aQ (.tmp 22) (.tmp 26) 23 rfl rfl e26 hr,hA⟩
   ·intro a Y hY ho q eq hq;obtain⟨u,W',hr,h2,h3,_,h5⟩:=run_append_own_at (P:=Tryz.prog) Y X.heap.size 23 23 41 i0 _ 3 56 Tryz.cn gF ga dJ gH rfl (by decide) _ k _ ho ⟨q,0,none⟩ 1 1 [.string x.kind,.string x.name,.slice xa x.lines.length xc] rfl (fun j y hy=>by rw[Addr.add_mid,Nat.zero_add];simp only[World.cell?,hq];simpa using hy) (by simp[Value.oneCell']) (by unfold maxLen;omega) (by omega) hY.size;exact⟨u,W',aQ (.tmp 27) (.tmp 29) 23 rfl rfl eq hr,h2,h3,h5⟩
   ·intro a Y hY hd ho;have e34:=hd 12 _ 34 rfl rfl ⟨⟨12,.data⟩,by simp,rfl,rfl⟩;obtain⟨u,W',hr,hA⟩:=gU 23 23 41 i0 _ 3 56 Tryz.cn gF ga dJ gH rfl (by decide) lP.out hY ho (by unfold maxLen;omega) (by omega);have en:k+1+(n - k)=n+1:=by omega
    rw[en]at hA;exact⟨u,W',aQ (.tmp 30) (.tmp 34) 23 rfl rfl e34 hr,hA⟩
   ·intro a Y hY K6 ho;obtain⟨g,cap,eu,_,_⟩:=ho.form (by omega);have t35:=(RY.af a 35).trans eu;have t36:a.tmps[36]?.getD undef=_:=(RY.af a 36).trans K6;have B1:=fO.out.box.later hY;have z2:=B1.get 0 _ rfl;have zf:=B1.own.frozen 0;refine⟨Y.setCell ⟨b0,0,none⟩ (.slice (some ⟨g,0,none⟩) (n+1) cap),by simp[execOp,go_sem,t35,t36,z2,zf], ?_⟩;rw[eu]at ho ⊢;exact QtK.mk' kW.out (fO.out.later hY) (by have:=fO.out.res.own.lt;omega) ho (gW.out.later hY) oD.out
   ·rintro vals W hK;simp only[RY.aC,Act.put,List.setIfInBounds_toArray,List.set_cons_zero,List.set_cons_succ];generalize vals 22=s22;generalize vals 23=s23;generalize vals 24=s24;generalize vals 25=s25;generalize vals 26=s26;generalize vals 27=s27;generalize vals 28=s28;generalize vals 29=s29;generalize vals 30=s30;generalize vals 31=sr;generalize vals 32=qw;generalize vals 33=qM;generalize vals 34=qX;generalize vals 35=lN at hK ⊢;generalize vals 36=lI;obtain⟨g,cap,eu⟩:=hK.form;subst eu;have HK:=uh hK;clear hK fO yn wK tw lP gW;go_upto_region 5 with fail
    have mN:=HK.out.box.at_;have gD:=HK.out.box.own.lt;have oG:=HK.out.res.own.lt;have cp:W.there (b0+2) 0 (#[.slice (some ⟨g,0,none⟩) (n+1) cap]:Array Value).size:=aR HK.out.res.own _ _ (by simp);obtain⟨we,bM⟩:∃ we,we=W.setCells (b0+2) 0 [.slice (some ⟨g,0,none⟩) (n+1) cap]:=⟨_,rfl⟩
    have fT:we.rangeAt (b0+2) 0 [.slice (some ⟨g,0,none⟩) (n+1) cap]:=by rw[bM];exact World.rangeAt_setCells_same _ _ _ _ cp
    have nO:Hid (Marks (fun b=>b=b0+2) W we):=by show Marks _ _ _;rw[bM];exact aM (S:=fun b=>b=b0+2) rfl _ _ _
    go_wp2_with (first|(refine wpList_load_mid rfl 25 _ rfl b0 0 rfl [.slice (some ⟨g,0,none⟩) (n+1) cap] _ mN Tryz.underlying25 rfl (by kernel_rfl) ?_)|(refine wpList_store_mid rfl 25 _ _ rfl (b0+2) 0 #[.slice (some ⟨g,0,none⟩) (n+1) cap] rfl rfl cp (by kernel_rfl) (by simp[Value.oneCell']) ?_))
    first|rw[← bM]|(simp only[List.toList_toArray];rw[← bM])
    try simp only[Act.put]
    refine bodyPost_ret (v:=.agg #[.slice (some ⟨g,0,none⟩) (n+1) cap]) (by simp[results,Tryz.results16,asAddr,run_loadVar_mid (P:=Tryz.prog) _ _ _ 25 [.slice (some ⟨g,0,none⟩) (n+1) cap] _ fT Tryz.underlying25 rfl (by kernel_rfl)]) rfl ?_;exact HK.out.ans kW.out nO.out oD.out je.out (fun b hb=>by rcases E9.out b hb with h|h;exact Or.inl (Ml.out b h);exact Or.inr (by simpa using h))
  ·have nK:Hid (∀ X,Bel wr X→Calls Tryz.prog 30 #[.agg #[.string y.kind,.string y.name,.slice ya y.lines.length yc],.agg #[.string x.kind,.string x.name,.slice xa x.lines.length xc]] X fun e w'=>e=.returned (.bool true)∧Bel X w'):=fun X hX=>by
    have:=l4 y x (.slice ya y.lines.length yc) (.slice xa x.lines.length xc) X;rwa [gJ]at this
   have E9:Hid (∀ j,j<k+1→Pl.ahead (s.getD j Pl.aN) x=true):=fun j hj=>by
    by_cases e:j=k
    ·rw[e,← HY.out];exact gJ
    ·exact HI.out j (by omega)
   go_upto_region 2 with fail
   refine RY.aH wr zR (VQb x y (some ⟨p,o,none⟩) xa ya vc xc yc p o n k b0) (Dy _ _ _ _ _ _ _ _ _ _ _ _ _) (by kernel_rfl) (by kernel_rfl) (by kernel_rfl) (by kernel_rfl) ?_ ?_
   ·intro i o' ho a X hX hk hd;have z2:=(HO.out.box.later hX).get 0 _ rfl;have rx:=(HO.out.arg.later hX).at_;have ry:=aB FN.out fB.out hX;match i,ho with
    |0,rfl=>
     exact RY.n (RY.p (.int .i64 (k:Int)) (by simp[execOp,go_sem,RY.K hk 5 (.int .i64 (k:Int))]))
    |1,rfl=>
     exact RY.n (RY.p (.pointer (some ⟨b0,0,none⟩)) (by simp[execOp,go_sem,RY.K hk 2 (.pointer (some ⟨b0,0,none⟩))]))
    |2,rfl=>
     exact RY.n (RY.p (.slice (some ⟨p,o,none⟩) n vc) (by simp[execOp,go_sem,RY.E hd 1 7,z2]))
    |3,rfl=>
     exact RY.n (RY.p (.int .i64 (n:Int)) (by simp[go_sem,RY.E hd 2 8]))
    |4,rfl=>
     exact RY.n (RY.p (.bool true) (by simp[execOp,go_sem,RY.E hd 0 6,RY.E hd 3 9,Hs]))
    |5,rfl=>
     exact RY.n (RY.p (.bool true) (by simp[execOp,go_sem,RY.E hd 4 10]))
    |6,rfl=>
     exact RY.on hd 5 11 (RY.p (.pointer (some ⟨b0,0,none⟩)) (by simp[execOp,go_sem,RY.K hk 2 (.pointer (some ⟨b0,0,none⟩))]))
    |7,rfl=>
     exact RY.on hd 5 11 (RY.p (.slice (some ⟨p,o,none⟩) n vc) (by simp[execOp,go_sem,RY.E hd 6 12,z2]))
    |8,rfl=>
     exact RY.on hd 5 11 (RY.p (.int .i64 (k:Int)) (by simp[execOp,go_sem,RY.K hk 5 (.int .i64 (k:Int))]))
    |9,rfl=>
     exact RY.on hd 5 11 (RY.p (.pointer (some ⟨p,o+k*3,none⟩)) (by simp[execOp,go_sem,RY.E hd 7 13,RY.E hd 8 14,ec,dP]))
    |10,rfl=>
     have gd:=hd 5 _ 11 rfl rfl ⟨⟨5,.guard⟩,by simp,rfl,rfl⟩;exact Or.inl ⟨(RY.aj rfl rfl rfl gd).trans rfl,Or.inl ⟨.agg #[.string y.kind,.string y.name,.slice ya y.lines.length yc],X,ar 41 _ rfl p (o+k*3) ((RY.af a 15).symm.trans (RY.E hd 9 15)) [.string y.kind,.string y.name,.slice ya y.lines.length yc] _ ry Tryz.underlying41 rfl (by kernel_rfl),zR,rfl⟩⟩
    |11,rfl=>
     have gd:=hd 5 _ 11 rfl rfl ⟨⟨5,.guard⟩,by simp,rfl,rfl⟩;exact Or.inl ⟨(RY.aj rfl rfl rfl gd).trans rfl,Or.inl ⟨.agg #[.string x.kind,.string x.name,.slice xa x.lines.length xc],X,ar 41 _ rfl (b0+1) 0 ((RY.af a 3).symm.trans (RY.K hk 3 (.pointer (some ⟨b0+1,0,none⟩)))) [.string x.kind,.string x.name,.slice xa x.lines.length xc] _ rx Tryz.underlying41 rfl (by kernel_rfl),zR,rfl⟩⟩
    |12,rfl=>
     have e16:=RY.E hd 10 16;have e17:=RY.E hd 11 17;refine RY.on hd 5 11 (.inr ⟨30,#[.agg #[.string y.kind,.string y.name,.slice ya y.lines.length yc],.agg #[.string x.kind,.string x.name,.slice xa x.lines.length xc]],by simp[go_sem,e16,e17],(nK.out X hX).mono ?_⟩);rintro e W' ⟨rfl,hb⟩;exact⟨_,rfl,hb,rfl⟩
    |13,rfl=>
     exact RY.n (RY.p (.bool true) (by simp[execOp,go_sem,RY.E hd 5 11,RY.E hd 12 18]))
    |n+14,ho=>simp at ho
   intro X vs hX bg;have q19:vs 19=_:=bg 13 _ 19 rfl rfl;simp only[RY.aC,Act.put,List.setIfInBounds_toArray,List.set_cons_zero,List.set_cons_succ];rw[q19];generalize vs 6=s6,vs 7=s7,vs 8=s8,vs 9=s9,vs 10=s10,vs 11=s11,vs 12=s12,vs 13=s13,vs 14=s14,vs 15=s15,vs 16=s16,vs 17=s17,vs 18=s18;clear bg q19;have fO:=uh (HO.out.later hX);clear hX HO;go_wp2;go_roundw
   case rel=>exact⟨k+1,by omega,by go_num,fO.out,E9.out⟩
   case measure=>simp[intOf];omega
theorem Ct:∀ ws:List ByteArray,ws.length+wtL (txD ws)=Pl.wtx ws
 |[]=>by simp[txD,wtL,Pl.wtx]
 |x::ws=>by
  have:=Ct ws;unfold Pl.wtx txD at this ⊢;rw[List.map_cons,wtL,List.map_cons,List.sum_cons,List.length_cons];omega
theorem Nx (x:Pl.Ln):wtL (lnD x)=Pl.wln x:=by
 unfold lnD Pl.wln;rw[wtL,wtL,wtL];have:=Ct x.ws;omega
theorem td:∀ l:List Pl.Ln,l.length+wtL (l.flatMap lnD)=(l.map fun x=>Pl.wln x+1).sum
 |[]=>by simp[wtL]
 |x::l=>by
  have:=td l;rw[List.flatMap_cons,ka,Nx,List.map_cons,List.sum_cons,List.length_cons];omega
theorem Ng (b:Pl.Bl):wtL (blD b)=Pl.wbl b:=by
 unfold blD bT Pl.wbl;rw[wtL,wtL,wtL,wtL];have:=td b.lines;omega
theorem Cj:∀ s:List Pl.Bl,s.length+wtL (s.flatMap blD)=Pl.wsh s
 |[]=>by simp[wtL,Pl.wsh]
 |x::l=>by
  have:=Cj l;unfold Pl.wsh at this ⊢;rw[List.flatMap_cons,ka,Ng,List.map_cons,List.sum_cons,List.length_cons];omega
theorem oR (s:List Pl.Bl):wtL [bD s]=Pl.wsh s:=by
 unfold bD;rw[wtL,wtL];have:=Cj s;omega
theorem yM:∀ s:List Pl.Bl,Pl.bQ s≤2*Pl.wsh s
 |[]=>by simp[Pl.bQ]
 |b::s=>by
  have ih:=yM s;have h1:=td b.lines;have hb:Pl.wbl b=b.kind.size+b.name.size+(b.lines.map fun x=>Pl.wln x+1).sum:=rfl;unfold Pl.bQ Pl.wsh at ih ⊢;rw[List.map_cons,List.map_cons,List.sum_cons,List.sum_cons];omega
def Dat (S:Nat→Prop) (B lo:Nat) (W:World) (sh:List Sh) (A:List Dt) (c:List Value):Prop:=∃ F,Rep W false sh F A c∧∀ b∈F,(S b∧b<B)∨lo≤b
theorem Dat.later {S:Nat→Prop} {B lo:Nat} {W W':World} {sh:List Sh} {A:List Dt} {c:List Value} (h:Dat S B lo W sh A c) (hb:Bel W W'):Dat S B lo W' sh A c:=by
 obtain⟨F,r,f⟩:=h;exact⟨F,r.later hb,f⟩
theorem Dat.bo {S T:Nat→Prop} {B lo:Nat} {W W':World} {sh:List Sh} {A:List Dt} {c:List Value} (h:Dat S B lo W sh A c) (hb:Marks T W W') (hT:∀ b,T b→B≤b∧b<lo):Dat S B lo W' sh A c:=by
 obtain⟨F,r,f⟩:=h;refine⟨F,r.bo hb fun b gb e=> ?_,f⟩;have:=hT b e;rcases f b gb with q|q<;>omega
theorem Dat.raw {S:Nat→Prop} {B lo:Nat} {W:World} {sh:List Sh} {A:List Dt} {c:List Value} (h:Dat S B lo W sh A c):Raw W sh A c:=by
 obtain⟨F,r,f⟩:=h;exact r.raw
theorem k9 {S:Nat→Prop} {B lo:Nat} {w:World} {t:TypeId} {sh:List Sh}:Dat S B lo w [.row t sh] [.row 0 []] [.slice none 0 0]:=⟨[],.emp _ _ _ rfl .nil,by simp⟩
def Gq (S:Nat→Prop) (B lo:Nat) (sh:List Sh) (A:List Dt) (W:World) (e:Ending) (w':World):Prop:=∃ c,e=.returned (.agg c.toArray)∧Dat S B lo w' sh A c∧Bel W w'
theorem uK {S:Nat→Prop} {B lo:Nat} {sh:List Sh} {A:List Dt} {W w':World} {e:Ending} {T:Nat→Prop} (h:Cc sh A T W e w') (hT:∀ b,T b→(S b∧b<B)∨lo≤b) (hl:lo≤W.heap.size):Gq S B lo sh A W e w':=by
 obtain⟨c,F,he,r,f,hb⟩:=h;refine⟨c,he,⟨F,r,fun b hb=> ?_⟩,hb⟩;rcases f b hb with q|q
 ·exact hT b q
 ·exact Or.inr (by omega)
theorem mc {S:Nat→Prop} {B lo:Nat} {W:World} {b:Pl.Bl} {c:List Value} (h:Dat S B lo W ak (blD b) c):∃ a m,c=[.string b.kind,.string b.name,.slice a b.lines.length m]∧Dat S B lo W bF [bT b.lines] [.slice a b.lines.length m]:=by
 obtain⟨F,r,f⟩:=h;obtain⟨F2,v2,hF,hc,r2⟩:=ku r;subst hc;obtain⟨a,m,rfl⟩:=r2.raw.bm;refine⟨a,m,rfl,F2,r2,fun b hb=>f b ?_⟩;rw[hF];simp[hb]
theorem mu {S:Nat→Prop} {B lo:Nat} {W:World} {s:List Pl.Bl} {c:List Value} (h:Dat S B lo W eU [bD s] c):∃ a m,c=[.slice a s.length m]∧Dat S B lo W bu [bD s] [.slice a s.length m]:=by
 obtain⟨F,r,f⟩:=h;obtain⟨F2,v2,hF,hc,r2⟩:=jC r;subst hc;obtain⟨a,m,rfl⟩:=r2.raw.bm;refine⟨a,m,rfl,F2,r2,fun b hb=>f b ?_⟩;rw[hF];simp[hb]
theorem jr {S:Nat→Prop} {B lo:Nat} (b:Pl.Bl) (x:Pl.Ln) (lv wv:Value) (w:World) (h:Dat S B lo w bF [bT b.lines] [lv]) (hx:Dat S B lo w bB [.row x.ws.length (txD x.ws)] [wv]) (hl:b.lines.length≤4194304) (bR:lo≤w.heap.size):
  Calls Tryz.prog 14 #[.agg #[.string b.kind,.string b.name,lv],.agg #[.string x.key,wv]] w (Gq S B lo ak (blD ⟨b.kind,b.name,Pl.ck b.kind b.lines x⟩) w):=by
 obtain⟨F,r,f⟩:=h;obtain⟨Fx,rx,fx⟩:=hx;exact(vG b x lv wv F Fx w r rx hl).mono fun e w' h=>uK h (fun b hb=>hb.elim (f b) (fx b)) bR
theorem ja {S:Nat→Prop} {B lo:Nat} (s:List Pl.Bl) (x:Pl.Bl) (lv wv:Value) (w:World) (h:Dat S B lo w bu [bD s] [lv]) (hx:Dat S B lo w bF [bT x.lines] [wv]) (hl:s.length≤4194304) (bR:lo≤w.heap.size):
  Calls Tryz.prog 16 #[.agg #[lv],.agg #[.string x.kind,.string x.name,wv]] w (Gq S B lo eU [bD (Pl.dO s x)] w):=by
 obtain⟨F,r,f⟩:=h;obtain⟨Fx,rx,fx⟩:=hx;exact(sP s x lv wv F Fx w r rx hl).mono fun e w' h=>uK h (fun b hb=>hb.elim (f b) (fx b)) bR
namespace Pl
theorem jZ (k:ByteArray) (l:List Ln) (x:Ln):(ck k l x).length=l.length+1:=by
 have:=List.takeWhile_append_dropWhile (p:=fun y=>aL k y x) (l:=l);have h2:(l.takeWhile fun y=>aL k y x).length+(l.dropWhile fun y=>aL k y x).length=l.length:=by rw[← List.length_append,this]
 simp only[ck,putAt,List.length_append,List.length_cons];omega
theorem jY (l:List Bl) (x:Bl):(dO l x).length=l.length+1:=by
 have:=List.takeWhile_append_dropWhile (p:=fun y=>ahead y x) (l:=l);have h2:(l.takeWhile fun y=>ahead y x).length+(l.dropWhile fun y=>ahead y x).length=l.length:=by rw[← List.length_append,this]
 simp only[dO,putAt,List.length_append,List.length_cons];omega
theorem rh (k:ByteArray) (l:List Ln) (x y:Ln):y∈ck k l x↔y=x∨y∈l:=by
 have:=List.takeWhile_append_dropWhile (p:=fun y=>aL k y x) (l:=l);rw[ck,putAt,List.mem_append,List.mem_cons];conv=>rhs;rw[← this,List.mem_append]
 constructor<;>(rintro(h|h|h)<;>simp[h])
theorem r5 (l:List Bl) (x y:Bl):y∈dO l x↔y=x∨y∈l:=by
 have:=List.takeWhile_append_dropWhile (p:=fun y=>ahead y x) (l:=l);rw[dO,putAt,List.mem_append,List.mem_cons];conv=>rhs;rw[← this,List.mem_append]
 constructor<;>(rintro(h|h|h)<;>simp[h])
end Pl
theorem GS (ws:List ByteArray):ws.length≤Pl.wtx ws:=by have:=Ct ws;omega
theorem uq (s:List Pl.Bl) (h:Pl.wsh s≤1048576):∀ b∈s,b.lines.length≤4194304∧∀ x∈b.lines,x.ws.length≤4194304:=fun b hb=>by
 have h1:=Pl.cW (fun b=>Pl.wbl b+1) s b hb;have h2:Pl.wbl b=b.kind.size+b.name.size+(b.lines.map fun x=>Pl.wln x+1).sum:=rfl;have h3:=td b.lines;have h4:Pl.wsh s=(s.map fun b=>Pl.wbl b+1).sum:=rfl;refine⟨by omega,fun x hx=> ?_⟩;have h5:=Pl.cW (fun x=>Pl.wln x+1) b.lines x hx;have h6:Pl.wln x=x.key.size+Pl.wtx x.ws:=rfl;have h7:=GS x.ws;omega
theorem Dat.shift {S:Nat→Prop} {B lo pb:Nat} {W:World} {sh:List Sh} {A:List Dt} {c:List Value} (h:Dat S B lo W sh A c) (hp:W.heap.size≤pb) (lo':Nat):Dat (fun b=>(S b∧b<B)∨lo≤b) pb lo' W sh A c:=by
 obtain⟨F,r,f⟩:=h;exact⟨F,r,fun b hb=>Or.inl ⟨f b hb,zL (r.lt b hb) hp⟩⟩
theorem Dat.back {S:Nat→Prop} {B lo pb lo':Nat} {W:World} {sh:List Sh} {A:List Dt} {c:List Value} (h:Dat (fun b=>(S b∧b<B)∨lo≤b) pb lo' W sh A c) (hl:lo≤lo'):Dat S B lo W sh A c:=by
 obtain⟨F,r,f⟩:=h;refine⟨F,r,fun b hb=> ?_⟩;rcases f b hb with q|q
 ·exact q.1
 ·exact Or.inr (by omega)
namespace Pl
end Pl
namespace Pl
def gR (l:List Ln) (x:Ln):Nat:=l.countP fun y=>(y.key.toList==x.key.toList)&&cH y.ws x.ws
theorem vF {l:List Ln} {p:Ln→Bool} {k:Nat} (hk:k<l.length):(l.take (k+1)).countP p=(l.take k).countP p+if p (l.getD k aK) then 1 else 0:=by
 rw[cX aK l k hk,List.countP_append,List.countP_singleton]
end Pl
def VKa (b0:Nat) (p:Nat) (o:Nat) (vc:Nat) (k:Nat) (b:Pl.Bl) (x:Pl.Ln) (y:Pl.Ln):Nat→Value→World→Prop
 |0,vv,_=>vv=.pointer (some ⟨b0,2,none⟩)
 |1,vv,_=>vv=.slice (some ⟨p,o,none⟩) b.lines.length vc
 |2,vv,_=>vv=.int .i64 (k:Int)
 |3,vv,_|4,vv,_=>vv=.pointer (some ⟨p,o+k*2,none⟩)
 |5,vv,_=>vv=.string y.key
 |6,vv,_=>vv=.pointer (some ⟨(b0+1),0,none⟩)
 |7,vv,_=>vv=.string x.key
 |8,vv,_=>vv=.bool (y.key.toList==x.key.toList)
 |_,_,_=>True
theorem D8 (b0:Nat) (p:Nat) (o:Nat) (vc:Nat) (k:Nat) (b:Pl.Bl) (x:Pl.Ln) (y:Pl.Ln):∀ jj vv W W',Bel W W'→VKa b0 p o vc k b x y jj vv W→VKa b0 p o vc k b x y jj vv W':=by
 intro jj vv W W' hb h;match jj with
 |0|1|2|3|4|5|6|7|8=>exact h
 |n+9=>exact trivial
def VKb (b0:Nat) (p:Nat) (o:Nat) (vc:Nat) (k:Nat) (b:Pl.Bl) (x:Pl.Ln) (y:Pl.Ln) (wa:Option Addr) (ya:Option Addr) (wc:Nat) (yc:Nat):Nat→Value→World→Prop
 |0,vv,_=>vv=.pointer (some ⟨b0,2,none⟩)
 |1,vv,_=>vv=.slice (some ⟨p,o,none⟩) b.lines.length vc
 |2,vv,_=>vv=.int .i64 (k:Int)
 |3,vv,_=>vv=.pointer (some ⟨p,o+k*2,none⟩)
 |4,vv,_=>vv=.pointer (some ⟨p,o+k*2+1,none⟩)
 |5,vv,_=>vv=.slice ya y.ws.length yc
 |6,vv,_=>vv=.pointer (some ⟨(b0+1),1,none⟩)
 |7,vv,_=>vv=.slice wa x.ws.length wc
 |8,vv,_=>vv=.bool (Pl.cH y.ws x.ws)
 |_,_,_=>True
theorem C4 (b0:Nat) (p:Nat) (o:Nat) (vc:Nat) (k:Nat) (b:Pl.Bl) (x:Pl.Ln) (y:Pl.Ln) (wa:Option Addr) (ya:Option Addr) (wc:Nat) (yc:Nat):∀ jj vv W W',Bel W W'→VKb b0 p o vc k b x y wa ya wc yc jj vv W→VKb b0 p o vc k b x y wa ya wc yc jj vv W':=by
 intro jj vv W W' hb h;match jj with
 |0|1|2|3|4|5|6|7|8=>exact h
 |n+9=>exact trivial
theorem GZ (b:Pl.Bl) (x:Pl.Ln) (lv wv:Value) (w:World) (h:Raw w bF [bT b.lines] [lv]) (hx:Raw w bB [.row x.ws.length (txD x.ws)] [wv]) (hl:b.lines.length≤4194304):
  Calls Tryz.prog 84 #[.agg #[.string b.kind,.string b.name,lv],.agg #[.string x.key,wv]] w fun e w'=>e=.returned (.tuple #[.int .i64 (Pl.aI b.lines x.key:Nat),.int .i64 (Pl.gR b.lines x:Nat)])∧Bel w w':=by
 have HL:=uh h;have HX:=uh hx;obtain⟨va,vc,ev⟩:=h.bm;subst ev;obtain⟨wa,wc,ev⟩:=hx.bm;subst ev;clear h hx;obtain⟨w0,wR⟩:∃ w0,w0=(w.alloc (.cells #[.string b.kind,.string b.name,.slice va b.lines.length vc] 41)).alloc (.cells #[.string x.key,.slice wa x.ws.length wc] 46):=⟨_,rfl⟩
 obtain⟨b0,cd⟩:∃ b0,b0=w.heap.size:=⟨_,rfl⟩
 have HB:Hid (Bel w w0):=by show Below _ _ _;rw[wR];exact ae (ae zR _) _
 have Fq:Hid (aS w0 b0 [.string b.kind,.string b.name,.slice va b.lines.length vc]):=by show aS _ _ _;rw[wR,cd];exact(aS.new w #[.string b.kind,.string b.name,.slice va b.lines.length vc] _ _ rfl).lf _
 have Hg:Hid (aS w0 (b0+1) [.string x.key,.slice wa x.ws.length wc]):=by show aS _ _ _;rw[wR,cd];exact aS.new (w.alloc (.cells #[.string b.kind,.string b.name,.slice va b.lines.length vc] 41)) #[.string x.key,.slice wa x.ws.length wc] _ _ (by simp)
 go_enter Tryz.func84,Tryz.ntmps84
 go_upto_region 1 with fail
 rw[← wR,← cd];clear wR cd;have HU0:=Fq;have HO0:=Hg;have cL:=HB;go_wp2;go_loopw [6,7,8] (fun v1 v2 vi wr=>∃ (k c1 c2:Nat),k≤b.lines.length∧v1=.int .i64 c1∧v2=.int .i64 c2∧vi=.int .i64 k∧c1=Pl.aI (b.lines.take k) x.key∧c2=(b.lines.take k).countP (fun y=>(y.key.toList==x.key.toList)&&Pl.cH y.ws x.ws)∧Bel w0 wr) (fun _ _ vi _=>b.lines.length - (intOf vi).toNat)
 case atStart=>exact⟨0,0,0,zN,rfl,rfl,rfl,rfl,rfl,zR⟩
 case round=>
  obtain⟨k,c1,c2,hk,rfl,rfl,rfl,h1,h2,hB⟩:=hrel;replace Fq:=uh (HU0.out.later hB)
  replace Hg:=uh (HO0.out.later hB)
  replace HB:=uh hB
  have mJ:c1≤b.lines.length:=by rw[h1];have:=List.countP_le_length (p:=fun y=>Pl.dD y.key x.key) (l:=b.lines.take k);rw[List.length_take]at this;unfold Pl.aI;omega
  have lQ:c2≤b.lines.length:=by rw[h2];have:=List.countP_le_length (p:=fun y:Pl.Ln=>(y.key.toList==x.key.toList)&&Pl.cH y.ws x.ws) (l:=b.lines.take k);rw[List.length_take]at this;omega
  have jm:=uh h1;have tR:=uh h2;clear hB h1 h2;have x2:=Fq.out.get 2 _ rfl;have xl:=Fq.out.lt;by_cases bd:k<b.lines.length
  rotate_left
  ·have zu:b.lines.take k=b.lines:=List.take_of_length_le (by omega);rw[zu]at jm tR;obtain rfl:k=b.lines.length:=by omega
   have hnlt:¬ ((b.lines.length:Int)<(b.lines.length:Int)):=by omega
   have JD:Hid (Pl.aI b.lines x.key=c1∧Pl.gR b.lines x=c2):=⟨jm.out.symm,tR.out.symm⟩
   go_wp2;go_ret2;rw[JD.out.1,JD.out.2];exact⟨rfl,ah cL.out HB.out⟩
  rcases cE ((HL.out.later cL.out).later HB.out) with⟨e0,_⟩|⟨p,o,c,hv,hp,fK,aO⟩
  ·omega
  injection hv with g1 g2 g3
  subst g1;subst g3;obtain⟨ya,yc,jf,fe⟩:=aO k bd;have yn:Hid (Pl.aI (b.lines.take (k+1)) x.key=c1+if Pl.dD (b.lines.getD k Pl.aK).key x.key then 1 else 0):=by show _=_;rw[jm.out];exact Pl.vF bd
  have wK:Hid (((b.lines.take (k+1)).countP fun y=>(y.key.toList==x.key.toList)&&Pl.cH y.ws x.ws)=c2+if ((b.lines.getD k Pl.aK).key.toList==x.key.toList)&&Pl.cH (b.lines.getD k Pl.aK).ws x.ws then 1 else 0):=by show _=_;rw[tR.out];exact Pl.vF bd
  obtain⟨y,hy⟩:∃ y,y=b.lines.getD k Pl.aK:=⟨_,rfl⟩
  rw[← hy]at jf fe yn wK;have Jr:=uh (fun (X:World) (hX:Bel wr X)=>AS y.ws x.ws (.slice ya y.ws.length yc) (.slice wa x.ws.length wc) X (fe.later hX) (((HX.out.later cL.out).later HB.out).later hX));have fg:=uh jf;have fB:=uh hp;have ec:(0:Int)≤(k:Int):=by omega
  have dP:(k:Int)<(b.lines.length:Int):=by omega
  clear hy jf fe hp fK aO jm tR;go_upto_region 6 with fail
  clear x2 xl;refine RY.cA wr zR (VKa b0 p o vc k b x y) (D8 _ _ _ _ _ _ _ _) (by kernel_rfl) (by kernel_rfl) (by kernel_rfl) (by kernel_rfl) ?_ ?_
  ·intro ii o' ho a X hX hk hd;have zb0:=Fq.out.later hX;have zb0l:=zb0.lt;have z_b0___1_:=Hg.out.later hX;have z_b0___1_l:=z_b0___1_.lt;match ii,ho with
   |0,rfl=>
    exact RY.p (.pointer (some ⟨b0,2,none⟩)) (by simp[execOp,go_sem,RY.K hk 2 (.pointer (some ⟨b0,0,none⟩))])
   |1,rfl=>
    have e16:=RY.E hd 0 16;have ycl_:=zb0.get 2 _ rfl;exact RY.p (.slice (some ⟨p,o,none⟩) b.lines.length vc) (by simp[execOp,go_sem,e16,ycl_])
   |2,rfl=>
    exact RY.p (.int .i64 (k:Int)) (by simp[execOp,go_sem,RY.K hk 8 (.int .i64 (k:Int))])
   |3,rfl=>
    exact RY.p (.pointer (some ⟨p,o+k*2,none⟩)) (by simp[execOp,go_sem,RY.E hd 1 17,RY.E hd 2 18,ec,dP])
   |4,rfl=>
    exact RY.p (.pointer (some ⟨p,o+k*2,none⟩)) (by simp[execOp,go_sem,RY.E hd 3 19])
   |5,rfl=>
    have e20:=RY.E hd 4 20;have ypl_:=zL fB.out hX.size;have ycl_:X.cell? ⟨p,o+k*2,none⟩=some (.string y.key):=by have q:=aE (aB fg.out fB.out hX) 0 _ rfl;simpa using q
    exact RY.p (.string y.key) (by simp[execOp,go_sem,e20,ycl_])
   |6,rfl=>
    exact RY.p (.pointer (some ⟨(b0+1),0,none⟩)) (by simp[execOp,go_sem,RY.K hk 3 (.pointer (some ⟨(b0+1),0,none⟩))])
   |7,rfl=>
    have e22:=RY.E hd 6 22;have ycl_:=z_b0___1_.get 0 _ rfl;exact RY.p (.string x.key) (by simp[execOp,go_sem,e22,ycl_])
   |8,rfl=>
    exact RY.p (.bool (y.key.toList==x.key.toList)) (by simp[execOp,go_sem,RY.E hd 5 21,RY.E hd 7 23])
   |n+9,ho=>simp at ho
  intro X vs hX bg;have q24:vs 24=_:=bg 8 _ 24 rfl rfl;simp only[RY.aC,Act.put,List.setIfInBounds_toArray,List.set_cons_zero,List.set_cons_succ];rw[q24];generalize vs 16=s16,vs 17=s17,vs 18=s18,vs 19=s19,vs 20=s20,vs 21=s21,vs 22=s22,vs 23=s23;clear bg q24;replace HB:=uh (ah HB.out hX)
  replace Fq:=uh (Fq.out.later hX)
  replace Hg:=uh (Hg.out.later hX)
  replace fg:=uh (aB fg.out fB.out hX)
  replace fB:=uh (zL fB.out hX.size)
  replace Jr:=uh (fun (Y:World) (hY:Bel X Y)=>Jr.out Y (ah hX hY))
  clear hX;cases hq:(y.key.toList==x.key.toList)
  ·have ES:Hid (c1=Pl.aI (b.lines.take (k+1)) x.key):=by show _=_;have BV:Pl.dD y.key x.key=_:=hq;rw[yn.out,BV];rfl
   have PL:Hid (c2=(b.lines.take (k+1)).countP fun y=>(y.key.toList==x.key.toList)&&Pl.cH y.ws x.ws):=by show _=_;rw[wK.out,hq];rfl
   go_wp2;go_roundw
   case rel=>exact⟨k+1,c1,c2,by omega,by go_num,by go_num,by go_num,ES.out,PL.out,HB.out⟩
   case measure=>simp[intOf];omega
  have ES:Hid (c1+1=Pl.aI (b.lines.take (k+1)) x.key):=by show _=_;have BV:Pl.dD y.key x.key=_:=hq;rw[yn.out,BV];rfl
  obtain⟨W1,ia⟩:∃ W1,W1=X:=⟨_,rfl⟩
  rw[← ia]at HB Fq Hg fg fB Jr ⊢;clear ia;go_upto_region 8 with fail
  refine RY.cA W1 zR (VKb b0 p o vc k b x y wa ya wc yc) (C4 _ _ _ _ _ _ _ _ _ _ _ _) (by kernel_rfl) (by kernel_rfl) (by kernel_rfl) (by kernel_rfl) ?_ ?_
  ·intro ii o' ho a X hX hk hd;have zb0:=Fq.out.later hX;have zb0l:=zb0.lt;have z_b0___1_:=Hg.out.later hX;have z_b0___1_l:=z_b0___1_.lt;match ii,ho with
   |0,rfl=>
    exact RY.p (.pointer (some ⟨b0,2,none⟩)) (by simp[execOp,go_sem,RY.K hk 2 (.pointer (some ⟨b0,0,none⟩))])
   |1,rfl=>
    have e27:=RY.E hd 0 27;have ycl_:=zb0.get 2 _ rfl;exact RY.p (.slice (some ⟨p,o,none⟩) b.lines.length vc) (by simp[execOp,go_sem,e27,ycl_])
   |2,rfl=>
    exact RY.p (.int .i64 (k:Int)) (by simp[execOp,go_sem,RY.K hk 8 (.int .i64 (k:Int))])
   |3,rfl=>
    exact RY.p (.pointer (some ⟨p,o+k*2,none⟩)) (by simp[execOp,go_sem,RY.E hd 1 28,RY.E hd 2 29,ec,dP])
   |4,rfl=>
    exact RY.p (.pointer (some ⟨p,o+k*2+1,none⟩)) (by simp[execOp,go_sem,RY.E hd 3 30])
   |5,rfl=>
    have e31:=RY.E hd 4 31;have ypl_:=zL fB.out hX.size;have ycl_:X.cell? ⟨p,o+k*2+1,none⟩=some (.slice ya y.ws.length yc):=by have q:=aE (aB fg.out fB.out hX) 1 _ rfl;simpa using q
    exact RY.p (.slice ya y.ws.length yc) (by simp[execOp,go_sem,e31,ycl_])
   |6,rfl=>
    exact RY.p (.pointer (some ⟨(b0+1),1,none⟩)) (by simp[execOp,go_sem,RY.K hk 3 (.pointer (some ⟨(b0+1),0,none⟩))])
   |7,rfl=>
    have e33:=RY.E hd 6 33;have ycl_:=z_b0___1_.get 1 _ rfl;exact RY.p (.slice wa x.ws.length wc) (by simp[execOp,go_sem,e33,ycl_])
   |8,rfl=>
    have e32:=RY.E hd 5 32;have e34:=RY.E hd 7 34;refine Or.inr ⟨106,#[.slice ya y.ws.length yc,.slice wa x.ws.length wc],by simp[go_sem,e32,e34],(Jr.out X hX).mono ?_⟩;rintro e W' ⟨rfl,hb⟩;exact⟨_,rfl,hb,rfl⟩
   |n+9,ho=>simp at ho
  intro X vs hX bg;have q35:vs 35=_:=bg 8 _ 35 rfl rfl;simp only[RY.aC,Act.put,List.setIfInBounds_toArray,List.set_cons_zero,List.set_cons_succ];rw[q35];generalize vs 27=s27,vs 28=s28,vs 29=s29,vs 30=s30,vs 31=sr,vs 32=qw,vs 33=qM,vs 34=qX;clear bg q35;replace HB:=uh (ah HB.out hX)
  replace Fq:=uh (Fq.out.later hX)
  replace Hg:=uh (Hg.out.later hX)
  replace fg:=uh (aB fg.out fB.out hX)
  replace fB:=uh (zL fB.out hX.size)
  clear hX;cases hw:Pl.cH y.ws x.ws
  ·have PL:Hid (c2=(b.lines.take (k+1)).countP fun y=>(y.key.toList==x.key.toList)&&Pl.cH y.ws x.ws):=by show _=_;rw[wK.out,hq,hw];rfl
   go_wp2;go_roundw
   case rel=>exact⟨k+1,c1+1,c2,by omega,by go_num,by go_num,by go_num,ES.out,PL.out,HB.out⟩
   case measure=>simp[intOf];omega
  have PL:Hid (c2+1=(b.lines.take (k+1)).countP fun y=>(y.key.toList==x.key.toList)&&Pl.cH y.ws x.ws):=by show _=_;rw[wK.out,hq,hw];rfl
  go_wp2;go_roundw
  case rel=>exact⟨k+1,c1+1,c2+1,by omega,by go_num,by go_num,by go_num,ES.out,PL.out,HB.out⟩
  case measure=>simp[intOf];omega
end Go.Proofs.YtopjjknojnfhmaaGreatDoor
