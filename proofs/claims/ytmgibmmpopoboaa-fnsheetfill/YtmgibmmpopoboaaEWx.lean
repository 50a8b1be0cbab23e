import Derived.Test.YtmgibmmpopoboaaEGo
import Derived.Test.YtmgibmmpopoboaaRgG
namespace Go.Proofs.Ytmgibmmpopoboaa
set_option maxRecDepth 8000
set_option maxHeartbeats 40000000
open Go.RowKit Go.Deep
theorem vz {W:World} {ws:List ByteArray} {a:Option Addr} {c:Nat} (h:Raw W [.row 9 [.s]] [.row ws.length (txD ws)] [.slice a ws.length c]) {k:Nat} (hk:k<ws.length):∃ p o,a=some ⟨p,o,none⟩∧p<W.heap.size∧W.cell? ⟨p,o+k,none⟩=some (.string (ws.getD k ⟨#[]⟩)):=by
 rcases h.slice with⟨e0,_⟩|⟨p,o,c',hv,hp,_,vs,hr,hR⟩
 ·omega
 ·injection hv with g1 _ _
  obtain⟨ve,hE,hg⟩:=hR.el hk hr;have LC:el 1 k (txD ws)=[.s (ws.getD k ⟨#[]⟩)]:=by exact gC ({data:=#[]}:ByteArray) Dt.s ws k hk
  have Im:Raw W [.s] [.s (ws.getD k ⟨#[]⟩)] ve:=by rw[← LC];exact hE
  obtain rfl:=vA Im;exact⟨p,o,g1,hp,by have:=aF hg 0 _ rfl;simpa using this⟩
theorem Ah (ws:List ByteArray) (a1 a2:Option Addr) (c1 c2:Nat) (W:World) (h1:Raw W [.row 9 [.s]] [.row ws.length (txD ws)] [.slice a1 ws.length c1]) (h2:Raw W [.row 9 [.s]] [.row ws.length (txD ws)] [.slice a2 ws.length c2]) (hl:ws.length≤4194304):
  Calls Try.prog 39 #[.slice a1 ws.length c1,.slice a2 ws.length c2] W fun e W'=>e=.returned (.bool true)∧Bel W W':=by
 have H1:=uh h1;have H2:=uh h2;clear h1 h2;obtain⟨n,hn⟩:∃ n,n=ws.length:=⟨_,rfl⟩
 have HN:=uh hn;rw[← hn]at hl ⊢;have d0:((n:Int) !=(n:Int))=false:=by simp
 clear hn;go_enter Try.func39,Try.ntmps39
 go_wp2;go_loopw [5] (fun i wr=>∃ k:Nat,k≤n∧i=.int .i64 k∧Hid (Bel W wr)) (fun i _=>n - (intOf i).toNat)
 case atStart=>exact⟨0,zN,rfl,zR⟩
 case round=>
  obtain⟨k,hk,rfl,HB⟩:=hrel;by_cases bN:k<n
  ·obtain⟨p1,o1,e1,pW,jU⟩:=vz (H1.out.ae HB.out) (k:=k) (by have:=HN.out;omega);obtain⟨p2,o2,e2,oy,kj⟩:=vz (H2.out.ae HB.out) (k:=k) (by have:=HN.out;omega);subst e1;subst e2;obtain⟨x,hx⟩:∃ x,x=ws.getD k ⟨#[]⟩:=⟨_,rfl⟩
   rw[← hx]at jU kj;clear hx;have dd:(0:Int)≤(k:Int):=by omega
   have de:(k:Int)<(n:Int):=by omega
   have BH:(wr.drew).cell? ⟨p1,o1+k,none⟩=some (.string x):=jU;have Gh:(wr.drew).cell? ⟨p2,o2+k,none⟩=some (.string x):=kj;have Bj:(x.toList==x.toList)=true:=by simp
   go_wp2;go_region
   all_goals go_wp2
   all_goals go_roundw
   all_goals first
    |(case rel=>exact⟨k+1,by omega,by go_num,Below.drew HB.out⟩)
    |(case measure=>simp[intOf];omega)
  ·obtain rfl:k=n:=by omega
   go_wp2;go_ret;exact⟨rfl,HB.out⟩
def VWL (p1:Nat) (o1:Nat) (c1:Nat) (p2:Nat) (o2:Nat) (c2:Nat) (n:Nat) (k:Nat) (x:Pl.Ln) (a1:Option Addr) (a2:Option Addr) (d1:Nat) (d2:Nat):Nat→Value→World→Prop
 |0,vv,_=>vv=.slice (some ⟨p1,o1,none⟩) n c1
 |1,vv,_=>vv=.int .i64 (k:Int)
 |2,vv,_=>vv=.pointer (some ⟨p1,o1+k*2,none⟩)
 |3,vv,_=>vv=.pointer (some ⟨p1,o1+k*2,none⟩)
 |4,vv,_=>vv=.string x.key
 |5,vv,_=>vv=.slice (some ⟨p2,o2,none⟩) n c2
 |6,vv,_=>vv=.int .i64 (k:Int)
 |7,vv,_=>vv=.pointer (some ⟨p2,o2+k*2,none⟩)
 |8,vv,_=>vv=.pointer (some ⟨p2,o2+k*2,none⟩)
 |9,vv,_=>vv=.string x.key
 |10,vv,_=>vv=.bool false
 |11,vv,_=>vv=.bool false
 |12,vv,_=>vv=.slice (some ⟨p1,o1,none⟩) n c1
 |13,vv,_=>vv=.int .i64 (k:Int)
 |14,vv,_=>vv=.pointer (some ⟨p1,o1+k*2,none⟩)
 |15,vv,_=>vv=.pointer (some ⟨p1,o1+k*2+1,none⟩)
 |16,vv,_=>vv=.slice a1 x.ws.length d1
 |17,vv,_=>vv=.slice (some ⟨p2,o2,none⟩) n c2
 |18,vv,_=>vv=.int .i64 (k:Int)
 |19,vv,_=>vv=.pointer (some ⟨p2,o2+k*2,none⟩)
 |20,vv,_=>vv=.pointer (some ⟨p2,o2+k*2+1,none⟩)
 |21,vv,_=>vv=.slice a2 x.ws.length d2
 |22,vv,_=>vv=.bool true
 |23,vv,_=>vv=.bool false
 |24,vv,_=>vv=.bool false
 |_,_,_=>True
theorem zw (p1:Nat) (o1:Nat) (c1:Nat) (p2:Nat) (o2:Nat) (c2:Nat) (n:Nat) (k:Nat) (x:Pl.Ln) (a1:Option Addr) (a2:Option Addr) (d1:Nat) (d2:Nat):∀ jj vv W W',Bel W W'→VWL p1 o1 c1 p2 o2 c2 n k x a1 a2 d1 d2 jj vv W→VWL p1 o1 c1 p2 o2 c2 n k x a1 a2 d1 d2 jj vv W':=by
 intro jj vv W W' hb h;match jj with
 |0=>exact h
 |1=>exact h
 |2=>exact h
 |3=>exact h
 |4=>exact h
 |5=>exact h
 |6=>exact h
 |7=>exact h
 |8=>exact h
 |9=>exact h
 |10=>exact h
 |11=>exact h
 |12=>exact h
 |13=>exact h
 |14=>exact h
 |15=>exact h
 |16=>exact h
 |17=>exact h
 |18=>exact h
 |19=>exact h
 |20=>exact h
 |21=>exact h
 |22=>exact h
 |23=>exact h
 |24=>exact h
 |n+25=>exact trivial
def VWS (b0:Nat) (b1:Nat) (p1:Nat) (o1:Nat) (c1:Nat) (p2:Nat) (o2:Nat) (c2:Nat) (n:Nat) (k:Nat) (x:Pl.Bl) (a1:Option Addr) (a2:Option Addr) (d1:Nat) (d2:Nat):Nat→Value→World→Prop
 |0,vv,_=>vv=.pointer (some ⟨b0,0,none⟩)
 |1,vv,_=>vv=.slice (some ⟨p1,o1,none⟩) n c1
 |2,vv,_=>vv=.int .i64 (k:Int)
 |3,vv,_=>vv=.pointer (some ⟨p1,o1+k*3,none⟩)
 |4,vv,_=>vv=.pointer (some ⟨p1,o1+k*3,none⟩)
 |5,vv,_=>vv=.string x.kind
 |6,vv,_=>vv=.pointer (some ⟨b1,0,none⟩)
 |7,vv,_=>vv=.slice (some ⟨p2,o2,none⟩) n c2
 |8,vv,_=>vv=.int .i64 (k:Int)
 |9,vv,_=>vv=.pointer (some ⟨p2,o2+k*3,none⟩)
 |10,vv,_=>vv=.pointer (some ⟨p2,o2+k*3,none⟩)
 |11,vv,_=>vv=.string x.kind
 |12,vv,_=>vv=.bool false
 |13,vv,_=>vv=.bool false
 |14,vv,_=>vv=.pointer (some ⟨b0,0,none⟩)
 |15,vv,_=>vv=.slice (some ⟨p1,o1,none⟩) n c1
 |16,vv,_=>vv=.int .i64 (k:Int)
 |17,vv,_=>vv=.pointer (some ⟨p1,o1+k*3,none⟩)
 |18,vv,_=>vv=.pointer (some ⟨p1,o1+k*3+1,none⟩)
 |19,vv,_=>vv=.string x.name
 |20,vv,_=>vv=.pointer (some ⟨b1,0,none⟩)
 |21,vv,_=>vv=.slice (some ⟨p2,o2,none⟩) n c2
 |22,vv,_=>vv=.int .i64 (k:Int)
 |23,vv,_=>vv=.pointer (some ⟨p2,o2+k*3,none⟩)
 |24,vv,_=>vv=.pointer (some ⟨p2,o2+k*3+1,none⟩)
 |25,vv,_=>vv=.string x.name
 |26,vv,_=>vv=.bool false
 |27,vv,_=>vv=.bool false
 |28,vv,_=>vv=.bool false
 |29,vv,_=>vv=.pointer (some ⟨b0,0,none⟩)
 |30,vv,_=>vv=.slice (some ⟨p1,o1,none⟩) n c1
 |31,vv,_=>vv=.int .i64 (k:Int)
 |32,vv,_=>vv=.pointer (some ⟨p1,o1+k*3,none⟩)
 |33,vv,_=>vv=.pointer (some ⟨p1,o1+k*3+2,none⟩)
 |34,vv,_=>vv=.slice a1 x.lines.length d1
 |35,vv,_=>vv=.pointer (some ⟨b1,0,none⟩)
 |36,vv,_=>vv=.slice (some ⟨p2,o2,none⟩) n c2
 |37,vv,_=>vv=.int .i64 (k:Int)
 |38,vv,_=>vv=.pointer (some ⟨p2,o2+k*3,none⟩)
 |39,vv,_=>vv=.pointer (some ⟨p2,o2+k*3+2,none⟩)
 |40,vv,_=>vv=.slice a2 x.lines.length d2
 |41,vv,_=>vv=.bool true
 |42,vv,_=>vv=.bool false
 |43,vv,_=>vv=.bool false
 |_,_,_=>True
theorem yS (b0:Nat) (b1:Nat) (p1:Nat) (o1:Nat) (c1:Nat) (p2:Nat) (o2:Nat) (c2:Nat) (n:Nat) (k:Nat) (x:Pl.Bl) (a1:Option Addr) (a2:Option Addr) (d1:Nat) (d2:Nat):∀ jj vv W W',Bel W W'→VWS b0 b1 p1 o1 c1 p2 o2 c2 n k x a1 a2 d1 d2 jj vv W→VWS b0 b1 p1 o1 c1 p2 o2 c2 n k x a1 a2 d1 d2 jj vv W':=by
 intro jj vv W W' hb h;match jj with
 |0=>exact h
 |1=>exact h
 |2=>exact h
 |3=>exact h
 |4=>exact h
 |5=>exact h
 |6=>exact h
 |7=>exact h
 |8=>exact h
 |9=>exact h
 |10=>exact h
 |11=>exact h
 |12=>exact h
 |13=>exact h
 |14=>exact h
 |15=>exact h
 |16=>exact h
 |17=>exact h
 |18=>exact h
 |19=>exact h
 |20=>exact h
 |21=>exact h
 |22=>exact h
 |23=>exact h
 |24=>exact h
 |25=>exact h
 |26=>exact h
 |27=>exact h
 |28=>exact h
 |29=>exact h
 |30=>exact h
 |31=>exact h
 |32=>exact h
 |33=>exact h
 |34=>exact h
 |35=>exact h
 |36=>exact h
 |37=>exact h
 |38=>exact h
 |39=>exact h
 |40=>exact h
 |41=>exact h
 |42=>exact h
 |43=>exact h
 |n+44=>exact trivial
theorem kF (l:List Pl.Ln) (v1 v2:Value) (W:World) (h1:Raw W aJ [aU l] [v1]) (h2:Raw W aJ [aU l] [v2]) (hl:l.length≤4194304) (hw:∀ x∈l,x.ws.length≤4194304):
  Calls Try.prog 14 #[v1,v2] W fun e W'=>e=.returned (.bool true)∧Bel W W':=by
 have H1:=uh h1;have H2:=uh h2;have Ip:=uh hw;obtain⟨q1,c1,e1⟩:=h1.aP;obtain⟨q2,c2,e2⟩:=h2.aP;subst e1;subst e2;clear h1 h2 hw;obtain⟨n,hn⟩:∃ n,n=l.length:=⟨_,rfl⟩
 have HN:=uh hn;have HB:Hid (Bel W W):=zR;rw[← hn]at hl ⊢;have d0:((n:Int) !=(n:Int))=false:=by simp
 clear hn;go_enter Try.func14,Try.ntmps14
 go_wp2;go_loopw [5] (fun i wr=>∃ k:Nat,k≤n∧i=.int .i64 k∧Bel W wr) (fun i _=>n - (intOf i).toNat)
 case atStart=>exact⟨0,zN,rfl,HB.out⟩
 case round=>
  obtain⟨k,hk,rfl,hB⟩:=hrel;replace HB:=uh hB
  clear hB;by_cases bN:k<n
  rotate_left
  ·obtain rfl:k=n:=by omega
   go_wp2;go_ret;exact⟨rfl,HB.out⟩
  have eP:k<l.length:=by have:=HN.out;omega
  rcases cX (H1.out.ae HB.out) with⟨e0,_⟩|⟨p1,o1,LM,jK,pW,_,ow⟩
  ·omega
  rcases cX (H2.out.ae HB.out) with⟨e0,_⟩|⟨p2,o2,GX,fK,oy,_,ou⟩
  ·omega
  injection jK with g1 _ g3
  subst g1;subst g3;injection fK with g1 _ g3
  subst g1;subst g3;obtain⟨a1,d1,vP,ji⟩:=ow k eP;obtain⟨a2,d2,oR,kh⟩:=ou k eP;have lf:(l.getD k Pl.aQ).ws.length≤4194304:=Ip.out _ (by simp[eP]);obtain⟨x,hx⟩:∃ x,x=l.getD k Pl.aQ:=⟨_,rfl⟩
  rw[← hx]at vP oR ji kh lf;have vT:=uh (fun (X:World) (hX:Bel wr X)=>Ah x.ws a1 a2 d1 d2 X (ji.ae hX) (kh.ae hX) (by omega));have xI:=uh vP;have mh:=uh oR;have ki:=uh pW;have gO:=uh oy;have dd:(0:Int)≤(k:Int):=by omega
  have de:(k:Int)<(n:Int):=by omega
  clear hx vP oR ji kh ow ou pW oy lf eP;go_upto_region 6 with fail
  refine RY.aH wr zR (VWL p1 o1 c1 p2 o2 c2 n k x a1 a2 d1 d2) (zw _ _ _ _ _ _ _ _ _ _ _ _ _) (by kernel_rfl) (by kernel_rfl) (by kernel_rfl) (by kernel_rfl) ?_ ?_
  ·intro ii o' ho a X hX hk hd;match ii,ho with
   |0,ho=>
    injection ho with ho;subst ho
    have e0:a.tmps[0]?.getD undef=.slice (some ⟨p1,o1,none⟩) n c1:=(RY.af a 0).trans ((hk 0 (by kernel_rfl)).trans rfl);exact Or.inl ⟨RY.al rfl,Or.inl ⟨.slice (some ⟨p1,o1,none⟩) n c1,X,by simp[execOp,go_sem,e0],zR,rfl⟩⟩
   |1,ho=>
    injection ho with ho;subst ho
    have e5:a.tmps[5]?.getD undef=.int .i64 (k:Int):=(RY.af a 5).trans ((hk 5 (by kernel_rfl)).trans rfl);exact Or.inl ⟨RY.al rfl,Or.inl ⟨.int .i64 (k:Int),X,by simp[execOp,go_sem,e5],zR,rfl⟩⟩
   |2,ho=>
    injection ho with ho;subst ho
    have e17:a.tmps[17]?.getD undef=.slice (some ⟨p1,o1,none⟩) n c1:=(RY.af a 17).trans (hd 0 _ 17 rfl rfl ⟨⟨0,.data⟩,by simp,rfl,rfl⟩);have e18:a.tmps[18]?.getD undef=.int .i64 (k:Int):=(RY.af a 18).trans (hd 1 _ 18 rfl rfl ⟨⟨1,.data⟩,by simp,rfl,rfl⟩);exact Or.inl ⟨RY.al rfl,Or.inl ⟨.pointer (some ⟨p1,o1+k*2,none⟩),X,by simp[execOp,go_sem,e17,e18,dd,de],zR,rfl⟩⟩
   |3,ho=>
    injection ho with ho;subst ho
    have e19:a.tmps[19]?.getD undef=.pointer (some ⟨p1,o1+k*2,none⟩):=(RY.af a 19).trans (hd 2 _ 19 rfl rfl ⟨⟨2,.data⟩,by simp,rfl,rfl⟩);exact Or.inl ⟨RY.al rfl,Or.inl ⟨.pointer (some ⟨p1,o1+k*2,none⟩),X,by simp[execOp,go_sem,e19],zR,rfl⟩⟩
   |4,ho=>
    injection ho with ho;subst ho
    have e20:a.tmps[20]?.getD undef=.pointer (some ⟨p1,o1+k*2,none⟩):=(RY.af a 20).trans (hd 3 _ 20 rfl rfl ⟨⟨3,.data⟩,by simp,rfl,rfl⟩);have ypl_:=zL ki.out hX.size;have ycl_:X.cell? ⟨p1,o1+k*2,none⟩=some (.string x.key):=by have q:=aF (aA xI.out ki.out hX) 0 _ rfl;simpa using q
    exact Or.inl ⟨RY.al rfl,Or.inl ⟨.string x.key,X,by simp[execOp,go_sem,e20,ycl_],zR,rfl⟩⟩
   |5,ho=>
    injection ho with ho;subst ho
    have e1:a.tmps[1]?.getD undef=.slice (some ⟨p2,o2,none⟩) n c2:=(RY.af a 1).trans ((hk 1 (by kernel_rfl)).trans rfl);exact Or.inl ⟨RY.al rfl,Or.inl ⟨.slice (some ⟨p2,o2,none⟩) n c2,X,by simp[execOp,go_sem,e1],zR,rfl⟩⟩
   |6,ho=>
    injection ho with ho;subst ho
    have e5:a.tmps[5]?.getD undef=.int .i64 (k:Int):=(RY.af a 5).trans ((hk 5 (by kernel_rfl)).trans rfl);exact Or.inl ⟨RY.al rfl,Or.inl ⟨.int .i64 (k:Int),X,by simp[execOp,go_sem,e5],zR,rfl⟩⟩
   |7,ho=>
    injection ho with ho;subst ho
    have e22:a.tmps[22]?.getD undef=.slice (some ⟨p2,o2,none⟩) n c2:=(RY.af a 22).trans (hd 5 _ 22 rfl rfl ⟨⟨5,.data⟩,by simp,rfl,rfl⟩);have e23:a.tmps[23]?.getD undef=.int .i64 (k:Int):=(RY.af a 23).trans (hd 6 _ 23 rfl rfl ⟨⟨6,.data⟩,by simp,rfl,rfl⟩);exact Or.inl ⟨RY.al rfl,Or.inl ⟨.pointer (some ⟨p2,o2+k*2,none⟩),X,by simp[execOp,go_sem,e22,e23,dd,de],zR,rfl⟩⟩
   |8,ho=>
    injection ho with ho;subst ho
    have e24:a.tmps[24]?.getD undef=.pointer (some ⟨p2,o2+k*2,none⟩):=(RY.af a 24).trans (hd 7 _ 24 rfl rfl ⟨⟨7,.data⟩,by simp,rfl,rfl⟩);exact Or.inl ⟨RY.al rfl,Or.inl ⟨.pointer (some ⟨p2,o2+k*2,none⟩),X,by simp[execOp,go_sem,e24],zR,rfl⟩⟩
   |9,ho=>
    injection ho with ho;subst ho
    have e25:a.tmps[25]?.getD undef=.pointer (some ⟨p2,o2+k*2,none⟩):=(RY.af a 25).trans (hd 8 _ 25 rfl rfl ⟨⟨8,.data⟩,by simp,rfl,rfl⟩);have ypl_:=zL gO.out hX.size;have ycl_:X.cell? ⟨p2,o2+k*2,none⟩=some (.string x.key):=by have q:=aF (aA mh.out gO.out hX) 0 _ rfl;simpa using q
    exact Or.inl ⟨RY.al rfl,Or.inl ⟨.string x.key,X,by simp[execOp,go_sem,e25,ycl_],zR,rfl⟩⟩
   |10,ho=>
    injection ho with ho;subst ho
    have e21:a.tmps[21]?.getD undef=.string x.key:=(RY.af a 21).trans (hd 4 _ 21 rfl rfl ⟨⟨4,.data⟩,by simp,rfl,rfl⟩);have e26:a.tmps[26]?.getD undef=.string x.key:=(RY.af a 26).trans (hd 9 _ 26 rfl rfl ⟨⟨9,.data⟩,by simp,rfl,rfl⟩);exact Or.inl ⟨RY.al rfl,Or.inl ⟨.bool false,X,by simp[execOp,go_sem,e21,e26],zR,rfl⟩⟩
   |11,ho=>
    injection ho with ho;subst ho
    have e27:a.tmps[27]?.getD undef=.bool false:=(RY.af a 27).trans (hd 10 _ 27 rfl rfl ⟨⟨10,.data⟩,by simp,rfl,rfl⟩);exact Or.inl ⟨RY.al rfl,Or.inl ⟨.bool false,X,by simp[execOp,go_sem,e27],zR,rfl⟩⟩
   |12,ho=>
    injection ho with ho;subst ho
    have gd:=hd 11 _ 28 rfl rfl ⟨⟨11,.guard⟩,by simp,rfl,rfl⟩;have e0:a.tmps[0]?.getD undef=.slice (some ⟨p1,o1,none⟩) n c1:=(RY.af a 0).trans ((hk 0 (by kernel_rfl)).trans rfl);exact Or.inl ⟨(RY.ak rfl rfl rfl gd).trans rfl,Or.inl ⟨.slice (some ⟨p1,o1,none⟩) n c1,X,by simp[execOp,go_sem,e0],zR,rfl⟩⟩
   |13,ho=>
    injection ho with ho;subst ho
    have gd:=hd 11 _ 28 rfl rfl ⟨⟨11,.guard⟩,by simp,rfl,rfl⟩;have e5:a.tmps[5]?.getD undef=.int .i64 (k:Int):=(RY.af a 5).trans ((hk 5 (by kernel_rfl)).trans rfl);exact Or.inl ⟨(RY.ak rfl rfl rfl gd).trans rfl,Or.inl ⟨.int .i64 (k:Int),X,by simp[execOp,go_sem,e5],zR,rfl⟩⟩
   |14,ho=>
    injection ho with ho;subst ho
    have gd:=hd 11 _ 28 rfl rfl ⟨⟨11,.guard⟩,by simp,rfl,rfl⟩;have e29:a.tmps[29]?.getD undef=.slice (some ⟨p1,o1,none⟩) n c1:=(RY.af a 29).trans (hd 12 _ 29 rfl rfl ⟨⟨12,.data⟩,by simp,rfl,rfl⟩);have e30:a.tmps[30]?.getD undef=.int .i64 (k:Int):=(RY.af a 30).trans (hd 13 _ 30 rfl rfl ⟨⟨13,.data⟩,by simp,rfl,rfl⟩);exact Or.inl ⟨(RY.ak rfl rfl rfl gd).trans rfl,Or.inl ⟨.pointer (some ⟨p1,o1+k*2,none⟩),X,by simp[execOp,go_sem,e29,e30,dd,de],zR,rfl⟩⟩
   |15,ho=>
    injection ho with ho;subst ho
    have gd:=hd 11 _ 28 rfl rfl ⟨⟨11,.guard⟩,by simp,rfl,rfl⟩;have e31:a.tmps[31]?.getD undef=.pointer (some ⟨p1,o1+k*2,none⟩):=(RY.af a 31).trans (hd 14 _ 31 rfl rfl ⟨⟨14,.data⟩,by simp,rfl,rfl⟩);exact Or.inl ⟨(RY.ak rfl rfl rfl gd).trans rfl,Or.inl ⟨.pointer (some ⟨p1,o1+k*2+1,none⟩),X,by simp[execOp,go_sem,e31],zR,rfl⟩⟩
   |16,ho=>
    injection ho with ho;subst ho
    have gd:=hd 11 _ 28 rfl rfl ⟨⟨11,.guard⟩,by simp,rfl,rfl⟩;have e32:a.tmps[32]?.getD undef=.pointer (some ⟨p1,o1+k*2+1,none⟩):=(RY.af a 32).trans (hd 15 _ 32 rfl rfl ⟨⟨15,.data⟩,by simp,rfl,rfl⟩);have ypl_:=zL ki.out hX.size;have ycl_:X.cell? ⟨p1,o1+k*2+1,none⟩=some (.slice a1 x.ws.length d1):=by have q:=aF (aA xI.out ki.out hX) 1 _ rfl;simpa using q
    exact Or.inl ⟨(RY.ak rfl rfl rfl gd).trans rfl,Or.inl ⟨.slice a1 x.ws.length d1,X,by simp[execOp,go_sem,e32,ycl_],zR,rfl⟩⟩
   |17,ho=>
    injection ho with ho;subst ho
    have gd:=hd 11 _ 28 rfl rfl ⟨⟨11,.guard⟩,by simp,rfl,rfl⟩;have e1:a.tmps[1]?.getD undef=.slice (some ⟨p2,o2,none⟩) n c2:=(RY.af a 1).trans ((hk 1 (by kernel_rfl)).trans rfl);exact Or.inl ⟨(RY.ak rfl rfl rfl gd).trans rfl,Or.inl ⟨.slice (some ⟨p2,o2,none⟩) n c2,X,by simp[execOp,go_sem,e1],zR,rfl⟩⟩
   |18,ho=>
    injection ho with ho;subst ho
    have gd:=hd 11 _ 28 rfl rfl ⟨⟨11,.guard⟩,by simp,rfl,rfl⟩;have e5:a.tmps[5]?.getD undef=.int .i64 (k:Int):=(RY.af a 5).trans ((hk 5 (by kernel_rfl)).trans rfl);exact Or.inl ⟨(RY.ak rfl rfl rfl gd).trans rfl,Or.inl ⟨.int .i64 (k:Int),X,by simp[execOp,go_sem,e5],zR,rfl⟩⟩
   |19,ho=>
    injection ho with ho;subst ho
    have gd:=hd 11 _ 28 rfl rfl ⟨⟨11,.guard⟩,by simp,rfl,rfl⟩;have e34:a.tmps[34]?.getD undef=.slice (some ⟨p2,o2,none⟩) n c2:=(RY.af a 34).trans (hd 17 _ 34 rfl rfl ⟨⟨17,.data⟩,by simp,rfl,rfl⟩);have e35:a.tmps[35]?.getD undef=.int .i64 (k:Int):=(RY.af a 35).trans (hd 18 _ 35 rfl rfl ⟨⟨18,.data⟩,by simp,rfl,rfl⟩);exact Or.inl ⟨(RY.ak rfl rfl rfl gd).trans rfl,Or.inl ⟨.pointer (some ⟨p2,o2+k*2,none⟩),X,by simp[execOp,go_sem,e34,e35,dd,de],zR,rfl⟩⟩
   |20,ho=>
    injection ho with ho;subst ho
    have gd:=hd 11 _ 28 rfl rfl ⟨⟨11,.guard⟩,by simp,rfl,rfl⟩;have e36:a.tmps[36]?.getD undef=.pointer (some ⟨p2,o2+k*2,none⟩):=(RY.af a 36).trans (hd 19 _ 36 rfl rfl ⟨⟨19,.data⟩,by simp,rfl,rfl⟩);exact Or.inl ⟨(RY.ak rfl rfl rfl gd).trans rfl,Or.inl ⟨.pointer (some ⟨p2,o2+k*2+1,none⟩),X,by simp[execOp,go_sem,e36],zR,rfl⟩⟩
   |21,ho=>
    injection ho with ho;subst ho
    have gd:=hd 11 _ 28 rfl rfl ⟨⟨11,.guard⟩,by simp,rfl,rfl⟩;have e37:a.tmps[37]?.getD undef=.pointer (some ⟨p2,o2+k*2+1,none⟩):=(RY.af a 37).trans (hd 20 _ 37 rfl rfl ⟨⟨20,.data⟩,by simp,rfl,rfl⟩);have ypl_:=zL gO.out hX.size;have ycl_:X.cell? ⟨p2,o2+k*2+1,none⟩=some (.slice a2 x.ws.length d2):=by have q:=aF (aA mh.out gO.out hX) 1 _ rfl;simpa using q
    exact Or.inl ⟨(RY.ak rfl rfl rfl gd).trans rfl,Or.inl ⟨.slice a2 x.ws.length d2,X,by simp[execOp,go_sem,e37,ycl_],zR,rfl⟩⟩
   |22,ho=>
    injection ho with ho;subst ho
    have gd:=hd 11 _ 28 rfl rfl ⟨⟨11,.guard⟩,by simp,rfl,rfl⟩;have e33:a.tmps[33]?.getD undef=.slice a1 x.ws.length d1:=(RY.af a 33).trans (hd 16 _ 33 rfl rfl ⟨⟨16,.data⟩,by simp,rfl,rfl⟩);have e38:a.tmps[38]?.getD undef=.slice a2 x.ws.length d2:=(RY.af a 38).trans (hd 21 _ 38 rfl rfl ⟨⟨21,.data⟩,by simp,rfl,rfl⟩);refine Or.inl ⟨(RY.ak rfl rfl rfl gd).trans rfl,Or.inr ⟨39,#[.slice a1 x.ws.length d1,.slice a2 x.ws.length d2],by simp[go_sem,e33,e38],(vT.out X hX).mono ?_⟩⟩;rintro e W' ⟨rfl,hb⟩;exact⟨_,rfl,hb,rfl⟩
   |23,ho=>
    injection ho with ho;subst ho
    have gd:=hd 11 _ 28 rfl rfl ⟨⟨11,.guard⟩,by simp,rfl,rfl⟩;have e39:a.tmps[39]?.getD undef=.bool true:=(RY.af a 39).trans (hd 22 _ 39 rfl rfl ⟨⟨22,.data⟩,by simp,rfl,rfl⟩);exact Or.inl ⟨(RY.ak rfl rfl rfl gd).trans rfl,Or.inl ⟨.bool false,X,by simp[execOp,go_sem,e39],zR,rfl⟩⟩
   |24,ho=>
    injection ho with ho;subst ho
    have e28:a.tmps[28]?.getD undef=.bool false:=(RY.af a 28).trans (hd 11 _ 28 rfl rfl ⟨⟨11,.data⟩,by simp,rfl,rfl⟩);have e40:a.tmps[40]?.getD undef=.bool false:=(RY.af a 40).trans (hd 23 _ 40 rfl rfl ⟨⟨23,.data⟩,by simp,rfl,rfl⟩);exact Or.inl ⟨RY.al rfl,Or.inl ⟨.bool false,X,by simp[execOp,go_sem,e28,e40],zR,rfl⟩⟩
   |n+25,ho=>simp at ho
  intro X vs hX bd;have q41:vs 41=_:=bd 24 _ 41 rfl rfl;simp only[RY.aE,Act.put,List.setIfInBounds_toArray,List.set_cons_zero,List.set_cons_succ];rw[q41];generalize vs 17=s17;generalize vs 18=s18;generalize vs 19=s19;generalize vs 20=s20;generalize vs 21=s21;generalize vs 22=s22;generalize vs 23=s23;generalize vs 24=s24;generalize vs 25=s25;generalize vs 26=s26;generalize vs 27=s27;generalize vs 28=s28;generalize vs 29=s29;generalize vs 30=s30;generalize vs 31=pY;generalize vs 32=o6;generalize vs 33=og;generalize vs 34=oz;generalize vs 35=k6;generalize vs 36=k9;generalize vs 37=lj;generalize vs 38=lY;generalize vs 39=mu;generalize vs 40=s40;clear bd q41;replace HB:=uh (ai HB.out hX)
  clear hX xI mh ki gO vT;go_wp2;go_roundw
  case rel=>exact⟨k+1,by omega,by go_num,HB.out⟩
  case measure=>simp[intOf];omega
theorem i9 (s:List Pl.Bl) (v1 v2:Value) (W:World) (h1:Raw W aV [aW s] [v1]) (h2:Raw W aV [aW s] [v2]) (hl:s.length≤4194304) (hw:∀ b∈s,b.lines.length≤4194304∧∀ x∈b.lines,x.ws.length≤4194304):
  Calls Try.prog 7 #[.agg #[v1],.agg #[v2]] W fun e W'=>e=.returned (.bool true)∧Bel W W':=by
 have H1:=uh h1;have H2:=uh h2;have Ip:=uh hw;obtain⟨q1,c1,e1⟩:=h1.aP;obtain⟨q2,c2,e2⟩:=h2.aP;subst e1;subst e2;clear h1 h2 hw;obtain⟨n,hn⟩:∃ n,n=s.length:=⟨_,rfl⟩
 have HN:=uh hn;rw[← hn]at hl ⊢;have d0:((n:Int) !=(n:Int))=false:=by simp
 clear hn;obtain⟨wa,aS⟩:∃ wa,wa=(W.alloc (.cells #[.slice q1 n c1] 25)).alloc (.cells #[.slice q2 n c2] 25):=⟨_,rfl⟩
 obtain⟨b0,bD⟩:∃ b0,b0=W.heap.size:=⟨_,rfl⟩
 obtain⟨b1,bZ⟩:∃ b1,b1=b0+1:=⟨_,rfl⟩
 have HB:Hid (Bel W wa):=by show Below _ _ _;rw[aS];exact ah (ah zR _) _
 have cu:Hid (aD wa b0 [.slice q1 n c1]):=by show aD _ _ _;rw[aS,bD];exact(aD.new W #[.slice q1 n c1] _ _ rfl).fI _
 have fz:Hid (aD wa b1 [.slice q2 n c2]):=by show aD _ _ _;rw[aS,bZ,bD];exact aD.new (W.alloc (.cells #[.slice q1 n c1] 25)) #[.slice q2 n c2] _ _ (by simp)
 have HZ:Hid (b0<wa.heap.size∧b1<wa.heap.size):=⟨cu.out.lt,fz.out.lt⟩
 go_enter Try.func7,Try.ntmps7
 go_upto_region 1 with fail
 rw[← aS,← bD,← bZ];clear aS bZ bD;have x0:=cu.out.get 0 _ rfl;have xl:=cu.out.lt;have y0:=fz.out.get 0 _ rfl;have yl:=fz.out.lt;go_wp2;clear x0 xl y0 yl;go_loopw [5] (fun i wr=>∃ k:Nat,k≤n∧i=.int .i64 k∧Bel W wr∧aD wr b0 [.slice q1 n c1]∧aD wr b1 [.slice q2 n c2]) (fun i _=>n - (intOf i).toNat)
 case atStart=>exact⟨0,zN,rfl,HB.out,cu.out,fz.out⟩
 case round=>
  obtain⟨k,hk,rfl,hB,tw,Ck⟩:=hrel;replace HB:=uh hB
  replace cu:=uh tw
  replace fz:=uh Ck
  clear hB tw Ck HZ;by_cases bN:k<n
  rotate_left
  ·obtain rfl:k=n:=by omega
   have x0:=cu.out.get 0 _ rfl;have xl:=cu.out.lt;go_wp2;go_ret;exact⟨rfl,HB.out⟩
  have eP:k<s.length:=by have:=HN.out;omega
  rcases cL (H1.out.ae HB.out) with⟨e0,_⟩|⟨p1,o1,LM,jK,pW,_,ow⟩
  ·omega
  rcases cL (H2.out.ae HB.out) with⟨e0,_⟩|⟨p2,o2,GX,fK,oy,_,ou⟩
  ·omega
  injection jK with g1 _ g3
  subst g1;subst g3;injection fK with g1 _ g3
  subst g1;subst g3;obtain⟨a1,d1,vP,ji⟩:=ow k eP;obtain⟨a2,d2,oR,kh⟩:=ou k eP;have lf:=Ip.out (s.getD k Pl.aG) (by simp[eP]);obtain⟨x,hx⟩:∃ x,x=s.getD k Pl.aG:=⟨_,rfl⟩
  rw[← hx]at vP oR ji kh lf;have vT:=uh (fun (X:World) (hX:Bel wr X)=>kF x.lines (.slice a1 x.lines.length d1) (.slice a2 x.lines.length d2) X (ji.ae hX) (kh.ae hX) lf.1 lf.2);have xI:=uh vP;have mh:=uh oR;have ki:=uh pW;have gO:=uh oy;have dd:(0:Int)≤(k:Int):=by omega
  have de:(k:Int)<(n:Int):=by omega
  have x0:=cu.out.get 0 _ rfl;have xl:=cu.out.lt;clear hx vP oR ji kh ow ou pW oy lf eP;go_upto_region 6 with fail
  clear x0 xl;refine RY.aH wr zR (VWS b0 b1 p1 o1 c1 p2 o2 c2 n k x a1 a2 d1 d2) (yS _ _ _ _ _ _ _ _ _ _ _ _ _ _ _) (by kernel_rfl) (by kernel_rfl) (by kernel_rfl) (by kernel_rfl) ?_ ?_
  ·intro ii o' ho a X hX hk hd;have zb0:=cu.out.ae hX;have zb0l:=zb0.lt;have zb1:=fz.out.ae hX;have zb1l:=zb1.lt;match ii,ho with
   |0,ho=>
    injection ho with ho;subst ho
    have e2:a.tmps[2]?.getD undef=.pointer (some ⟨b0,0,none⟩):=(RY.af a 2).trans ((hk 2 (by kernel_rfl)).trans rfl);exact Or.inl ⟨RY.al rfl,Or.inl ⟨.pointer (some ⟨b0,0,none⟩),X,by simp[execOp,go_sem,e2],zR,rfl⟩⟩
   |1,ho=>
    injection ho with ho;subst ho
    have e20:a.tmps[20]?.getD undef=.pointer (some ⟨b0,0,none⟩):=(RY.af a 20).trans (hd 0 _ 20 rfl rfl ⟨⟨0,.data⟩,by simp,rfl,rfl⟩);have ycl_:=zb0.get 0 _ rfl;exact Or.inl ⟨RY.al rfl,Or.inl ⟨.slice (some ⟨p1,o1,none⟩) n c1,X,by simp[execOp,go_sem,e20,ycl_],zR,rfl⟩⟩
   |2,ho=>
    injection ho with ho;subst ho
    have e5:a.tmps[5]?.getD undef=.int .i64 (k:Int):=(RY.af a 5).trans ((hk 5 (by kernel_rfl)).trans rfl);exact Or.inl ⟨RY.al rfl,Or.inl ⟨.int .i64 (k:Int),X,by simp[execOp,go_sem,e5],zR,rfl⟩⟩
   |3,ho=>
    injection ho with ho;subst ho
    have e21:a.tmps[21]?.getD undef=.slice (some ⟨p1,o1,none⟩) n c1:=(RY.af a 21).trans (hd 1 _ 21 rfl rfl ⟨⟨1,.data⟩,by simp,rfl,rfl⟩);have e22:a.tmps[22]?.getD undef=.int .i64 (k:Int):=(RY.af a 22).trans (hd 2 _ 22 rfl rfl ⟨⟨2,.data⟩,by simp,rfl,rfl⟩);exact Or.inl ⟨RY.al rfl,Or.inl ⟨.pointer (some ⟨p1,o1+k*3,none⟩),X,by simp[execOp,go_sem,e21,e22,dd,de],zR,rfl⟩⟩
   |4,ho=>
    injection ho with ho;subst ho
    have e23:a.tmps[23]?.getD undef=.pointer (some ⟨p1,o1+k*3,none⟩):=(RY.af a 23).trans (hd 3 _ 23 rfl rfl ⟨⟨3,.data⟩,by simp,rfl,rfl⟩);exact Or.inl ⟨RY.al rfl,Or.inl ⟨.pointer (some ⟨p1,o1+k*3,none⟩),X,by simp[execOp,go_sem,e23],zR,rfl⟩⟩
   |5,ho=>
    injection ho with ho;subst ho
    have e24:a.tmps[24]?.getD undef=.pointer (some ⟨p1,o1+k*3,none⟩):=(RY.af a 24).trans (hd 4 _ 24 rfl rfl ⟨⟨4,.data⟩,by simp,rfl,rfl⟩);have ypl_:=zL ki.out hX.size;have ycl_:X.cell? ⟨p1,o1+k*3,none⟩=some (.string x.kind):=by have q:=aF (aA xI.out ki.out hX) 0 _ rfl;simpa using q
    exact Or.inl ⟨RY.al rfl,Or.inl ⟨.string x.kind,X,by simp[execOp,go_sem,e24,ycl_],zR,rfl⟩⟩
   |6,ho=>
    injection ho with ho;subst ho
    have e3:a.tmps[3]?.getD undef=.pointer (some ⟨b1,0,none⟩):=(RY.af a 3).trans ((hk 3 (by kernel_rfl)).trans rfl);exact Or.inl ⟨RY.al rfl,Or.inl ⟨.pointer (some ⟨b1,0,none⟩),X,by simp[execOp,go_sem,e3],zR,rfl⟩⟩
   |7,ho=>
    injection ho with ho;subst ho
    have e26:a.tmps[26]?.getD undef=.pointer (some ⟨b1,0,none⟩):=(RY.af a 26).trans (hd 6 _ 26 rfl rfl ⟨⟨6,.data⟩,by simp,rfl,rfl⟩);have ycl_:=zb1.get 0 _ rfl;exact Or.inl ⟨RY.al rfl,Or.inl ⟨.slice (some ⟨p2,o2,none⟩) n c2,X,by simp[execOp,go_sem,e26,ycl_],zR,rfl⟩⟩
   |8,ho=>
    injection ho with ho;subst ho
    have e5:a.tmps[5]?.getD undef=.int .i64 (k:Int):=(RY.af a 5).trans ((hk 5 (by kernel_rfl)).trans rfl);exact Or.inl ⟨RY.al rfl,Or.inl ⟨.int .i64 (k:Int),X,by simp[execOp,go_sem,e5],zR,rfl⟩⟩
   |9,ho=>
    injection ho with ho;subst ho
    have e27:a.tmps[27]?.getD undef=.slice (some ⟨p2,o2,none⟩) n c2:=(RY.af a 27).trans (hd 7 _ 27 rfl rfl ⟨⟨7,.data⟩,by simp,rfl,rfl⟩);have e28:a.tmps[28]?.getD undef=.int .i64 (k:Int):=(RY.af a 28).trans (hd 8 _ 28 rfl rfl ⟨⟨8,.data⟩,by simp,rfl,rfl⟩);exact Or.inl ⟨RY.al rfl,Or.inl ⟨.pointer (some ⟨p2,o2+k*3,none⟩),X,by simp[execOp,go_sem,e27,e28,dd,de],zR,rfl⟩⟩
   |10,ho=>
    injection ho with ho;subst ho
    have e29:a.tmps[29]?.getD undef=.pointer (some ⟨p2,o2+k*3,none⟩):=(RY.af a 29).trans (hd 9 _ 29 rfl rfl ⟨⟨9,.data⟩,by simp,rfl,rfl⟩);exact Or.inl ⟨RY.al rfl,Or.inl ⟨.pointer (some ⟨p2,o2+k*3,none⟩),X,by simp[execOp,go_sem,e29],zR,rfl⟩⟩
   |11,ho=>
    injection ho with ho;subst ho
    have e30:a.tmps[30]?.getD undef=.pointer (some ⟨p2,o2+k*3,none⟩):=(RY.af a 30).trans (hd 10 _ 30 rfl rfl ⟨⟨10,.data⟩,by simp,rfl,rfl⟩);have ypl_:=zL gO.out hX.size;have ycl_:X.cell? ⟨p2,o2+k*3,none⟩=some (.string x.kind):=by have q:=aF (aA mh.out gO.out hX) 0 _ rfl;simpa using q
    exact Or.inl ⟨RY.al rfl,Or.inl ⟨.string x.kind,X,by simp[execOp,go_sem,e30,ycl_],zR,rfl⟩⟩
   |12,ho=>
    injection ho with ho;subst ho
    have e25:a.tmps[25]?.getD undef=.string x.kind:=(RY.af a 25).trans (hd 5 _ 25 rfl rfl ⟨⟨5,.data⟩,by simp,rfl,rfl⟩);have e31:a.tmps[31]?.getD undef=.string x.kind:=(RY.af a 31).trans (hd 11 _ 31 rfl rfl ⟨⟨11,.data⟩,by simp,rfl,rfl⟩);exact Or.inl ⟨RY.al rfl,Or.inl ⟨.bool false,X,by simp[execOp,go_sem,e25,e31],zR,rfl⟩⟩
   |13,ho=>
    injection ho with ho;subst ho
    have e32:a.tmps[32]?.getD undef=.bool false:=(RY.af a 32).trans (hd 12 _ 32 rfl rfl ⟨⟨12,.data⟩,by simp,rfl,rfl⟩);exact Or.inl ⟨RY.al rfl,Or.inl ⟨.bool false,X,by simp[execOp,go_sem,e32],zR,rfl⟩⟩
   |14,ho=>
    injection ho with ho;subst ho
    have gd:=hd 13 _ 33 rfl rfl ⟨⟨13,.guard⟩,by simp,rfl,rfl⟩;have e2:a.tmps[2]?.getD undef=.pointer (some ⟨b0,0,none⟩):=(RY.af a 2).trans ((hk 2 (by kernel_rfl)).trans rfl);exact Or.inl ⟨(RY.ak rfl rfl rfl gd).trans rfl,Or.inl ⟨.pointer (some ⟨b0,0,none⟩),X,by simp[execOp,go_sem,e2],zR,rfl⟩⟩
   |15,ho=>
    injection ho with ho;subst ho
    have gd:=hd 13 _ 33 rfl rfl ⟨⟨13,.guard⟩,by simp,rfl,rfl⟩;have e34:a.tmps[34]?.getD undef=.pointer (some ⟨b0,0,none⟩):=(RY.af a 34).trans (hd 14 _ 34 rfl rfl ⟨⟨14,.data⟩,by simp,rfl,rfl⟩);have ycl_:=zb0.get 0 _ rfl;exact Or.inl ⟨(RY.ak rfl rfl rfl gd).trans rfl,Or.inl ⟨.slice (some ⟨p1,o1,none⟩) n c1,X,by simp[execOp,go_sem,e34,ycl_],zR,rfl⟩⟩
   |16,ho=>
    injection ho with ho;subst ho
    have gd:=hd 13 _ 33 rfl rfl ⟨⟨13,.guard⟩,by simp,rfl,rfl⟩;have e5:a.tmps[5]?.getD undef=.int .i64 (k:Int):=(RY.af a 5).trans ((hk 5 (by kernel_rfl)).trans rfl);exact Or.inl ⟨(RY.ak rfl rfl rfl gd).trans rfl,Or.inl ⟨.int .i64 (k:Int),X,by simp[execOp,go_sem,e5],zR,rfl⟩⟩
   |17,ho=>
    injection ho with ho;subst ho
    have gd:=hd 13 _ 33 rfl rfl ⟨⟨13,.guard⟩,by simp,rfl,rfl⟩;have e35:a.tmps[35]?.getD undef=.slice (some ⟨p1,o1,none⟩) n c1:=(RY.af a 35).trans (hd 15 _ 35 rfl rfl ⟨⟨15,.data⟩,by simp,rfl,rfl⟩);have e36:a.tmps[36]?.getD undef=.int .i64 (k:Int):=(RY.af a 36).trans (hd 16 _ 36 rfl rfl ⟨⟨16,.data⟩,by simp,rfl,rfl⟩);exact Or.inl ⟨(RY.ak rfl rfl rfl gd).trans rfl,Or.inl ⟨.pointer (some ⟨p1,o1+k*3,none⟩),X,by simp[execOp,go_sem,e35,e36,dd,de],zR,rfl⟩⟩
   |18,ho=>
    injection ho with ho;subst ho
    have gd:=hd 13 _ 33 rfl rfl ⟨⟨13,.guard⟩,by simp,rfl,rfl⟩;have e37:a.tmps[37]?.getD undef=.pointer (some ⟨p1,o1+k*3,none⟩):=(RY.af a 37).trans (hd 17 _ 37 rfl rfl ⟨⟨17,.data⟩,by simp,rfl,rfl⟩);exact Or.inl ⟨(RY.ak rfl rfl rfl gd).trans rfl,Or.inl ⟨.pointer (some ⟨p1,o1+k*3+1,none⟩),X,by simp[execOp,go_sem,e37],zR,rfl⟩⟩
   |19,ho=>
    injection ho with ho;subst ho
    have gd:=hd 13 _ 33 rfl rfl ⟨⟨13,.guard⟩,by simp,rfl,rfl⟩;have e38:a.tmps[38]?.getD undef=.pointer (some ⟨p1,o1+k*3+1,none⟩):=(RY.af a 38).trans (hd 18 _ 38 rfl rfl ⟨⟨18,.data⟩,by simp,rfl,rfl⟩);have ypl_:=zL ki.out hX.size;have ycl_:X.cell? ⟨p1,o1+k*3+1,none⟩=some (.string x.name):=by have q:=aF (aA xI.out ki.out hX) 1 _ rfl;simpa using q
    exact Or.inl ⟨(RY.ak rfl rfl rfl gd).trans rfl,Or.inl ⟨.string x.name,X,by simp[execOp,go_sem,e38,ycl_],zR,rfl⟩⟩
   |20,ho=>
    injection ho with ho;subst ho
    have gd:=hd 13 _ 33 rfl rfl ⟨⟨13,.guard⟩,by simp,rfl,rfl⟩;have e3:a.tmps[3]?.getD undef=.pointer (some ⟨b1,0,none⟩):=(RY.af a 3).trans ((hk 3 (by kernel_rfl)).trans rfl);exact Or.inl ⟨(RY.ak rfl rfl rfl gd).trans rfl,Or.inl ⟨.pointer (some ⟨b1,0,none⟩),X,by simp[execOp,go_sem,e3],zR,rfl⟩⟩
   |21,ho=>
    injection ho with ho;subst ho
    have gd:=hd 13 _ 33 rfl rfl ⟨⟨13,.guard⟩,by simp,rfl,rfl⟩;have e40:a.tmps[40]?.getD undef=.pointer (some ⟨b1,0,none⟩):=(RY.af a 40).trans (hd 20 _ 40 rfl rfl ⟨⟨20,.data⟩,by simp,rfl,rfl⟩);have ycl_:=zb1.get 0 _ rfl;exact Or.inl ⟨(RY.ak rfl rfl rfl gd).trans rfl,Or.inl ⟨.slice (some ⟨p2,o2,none⟩) n c2,X,by simp[execOp,go_sem,e40,ycl_],zR,rfl⟩⟩
   |22,ho=>
    injection ho with ho;subst ho
    have gd:=hd 13 _ 33 rfl rfl ⟨⟨13,.guard⟩,by simp,rfl,rfl⟩;have e5:a.tmps[5]?.getD undef=.int .i64 (k:Int):=(RY.af a 5).trans ((hk 5 (by kernel_rfl)).trans rfl);exact Or.inl ⟨(RY.ak rfl rfl rfl gd).trans rfl,Or.inl ⟨.int .i64 (k:Int),X,by simp[execOp,go_sem,e5],zR,rfl⟩⟩
   |23,ho=>
    injection ho with ho;subst ho
    have gd:=hd 13 _ 33 rfl rfl ⟨⟨13,.guard⟩,by simp,rfl,rfl⟩;have e41:a.tmps[41]?.getD undef=.slice (some ⟨p2,o2,none⟩) n c2:=(RY.af a 41).trans (hd 21 _ 41 rfl rfl ⟨⟨21,.data⟩,by simp,rfl,rfl⟩);have e42:a.tmps[42]?.getD undef=.int .i64 (k:Int):=(RY.af a 42).trans (hd 22 _ 42 rfl rfl ⟨⟨22,.data⟩,by simp,rfl,rfl⟩);exact Or.inl ⟨(RY.ak rfl rfl rfl gd).trans rfl,Or.inl ⟨.pointer (some ⟨p2,o2+k*3,none⟩),X,by simp[execOp,go_sem,e41,e42,dd,de],zR,rfl⟩⟩
   |24,ho=>
    injection ho with ho;subst ho
    have gd:=hd 13 _ 33 rfl rfl ⟨⟨13,.guard⟩,by simp,rfl,rfl⟩;have e43:a.tmps[43]?.getD undef=.pointer (some ⟨p2,o2+k*3,none⟩):=(RY.af a 43).trans (hd 23 _ 43 rfl rfl ⟨⟨23,.data⟩,by simp,rfl,rfl⟩);exact Or.inl ⟨(RY.ak rfl rfl rfl gd).trans rfl,Or.inl ⟨.pointer (some ⟨p2,o2+k*3+1,none⟩),X,by simp[execOp,go_sem,e43],zR,rfl⟩⟩
   |25,ho=>
    injection ho with ho;subst ho
    have gd:=hd 13 _ 33 rfl rfl ⟨⟨13,.guard⟩,by simp,rfl,rfl⟩;have e44:a.tmps[44]?.getD undef=.pointer (some ⟨p2,o2+k*3+1,none⟩):=(RY.af a 44).trans (hd 24 _ 44 rfl rfl ⟨⟨24,.data⟩,by simp,rfl,rfl⟩);have ypl_:=zL gO.out hX.size;have ycl_:X.cell? ⟨p2,o2+k*3+1,none⟩=some (.string x.name):=by have q:=aF (aA mh.out gO.out hX) 1 _ rfl;simpa using q
    exact Or.inl ⟨(RY.ak rfl rfl rfl gd).trans rfl,Or.inl ⟨.string x.name,X,by simp[execOp,go_sem,e44,ycl_],zR,rfl⟩⟩
   |26,ho=>
    injection ho with ho;subst ho
    have gd:=hd 13 _ 33 rfl rfl ⟨⟨13,.guard⟩,by simp,rfl,rfl⟩;have e39:a.tmps[39]?.getD undef=.string x.name:=(RY.af a 39).trans (hd 19 _ 39 rfl rfl ⟨⟨19,.data⟩,by simp,rfl,rfl⟩);have e45:a.tmps[45]?.getD undef=.string x.name:=(RY.af a 45).trans (hd 25 _ 45 rfl rfl ⟨⟨25,.data⟩,by simp,rfl,rfl⟩);exact Or.inl ⟨(RY.ak rfl rfl rfl gd).trans rfl,Or.inl ⟨.bool false,X,by simp[execOp,go_sem,e39,e45],zR,rfl⟩⟩
   |27,ho=>
    injection ho with ho;subst ho
    have e33:a.tmps[33]?.getD undef=.bool false:=(RY.af a 33).trans (hd 13 _ 33 rfl rfl ⟨⟨13,.data⟩,by simp,rfl,rfl⟩);have e46:a.tmps[46]?.getD undef=.bool false:=(RY.af a 46).trans (hd 26 _ 46 rfl rfl ⟨⟨26,.data⟩,by simp,rfl,rfl⟩);exact Or.inl ⟨RY.al rfl,Or.inl ⟨.bool false,X,by simp[execOp,go_sem,e33,e46],zR,rfl⟩⟩
   |28,ho=>
    injection ho with ho;subst ho
    have e47:a.tmps[47]?.getD undef=.bool false:=(RY.af a 47).trans (hd 27 _ 47 rfl rfl ⟨⟨27,.data⟩,by simp,rfl,rfl⟩);exact Or.inl ⟨RY.al rfl,Or.inl ⟨.bool false,X,by simp[execOp,go_sem,e47],zR,rfl⟩⟩
   |29,ho=>
    injection ho with ho;subst ho
    have gd:=hd 28 _ 48 rfl rfl ⟨⟨28,.guard⟩,by simp,rfl,rfl⟩;have e2:a.tmps[2]?.getD undef=.pointer (some ⟨b0,0,none⟩):=(RY.af a 2).trans ((hk 2 (by kernel_rfl)).trans rfl);exact Or.inl ⟨(RY.ak rfl rfl rfl gd).trans rfl,Or.inl ⟨.pointer (some ⟨b0,0,none⟩),X,by simp[execOp,go_sem,e2],zR,rfl⟩⟩
   |30,ho=>
    injection ho with ho;subst ho
    have gd:=hd 28 _ 48 rfl rfl ⟨⟨28,.guard⟩,by simp,rfl,rfl⟩;have e49:a.tmps[49]?.getD undef=.pointer (some ⟨b0,0,none⟩):=(RY.af a 49).trans (hd 29 _ 49 rfl rfl ⟨⟨29,.data⟩,by simp,rfl,rfl⟩);have ycl_:=zb0.get 0 _ rfl;exact Or.inl ⟨(RY.ak rfl rfl rfl gd).trans rfl,Or.inl ⟨.slice (some ⟨p1,o1,none⟩) n c1,X,by simp[execOp,go_sem,e49,ycl_],zR,rfl⟩⟩
   |31,ho=>
    injection ho with ho;subst ho
    have gd:=hd 28 _ 48 rfl rfl ⟨⟨28,.guard⟩,by simp,rfl,rfl⟩;have e5:a.tmps[5]?.getD undef=.int .i64 (k:Int):=(RY.af a 5).trans ((hk 5 (by kernel_rfl)).trans rfl);exact Or.inl ⟨(RY.ak rfl rfl rfl gd).trans rfl,Or.inl ⟨.int .i64 (k:Int),X,by simp[execOp,go_sem,e5],zR,rfl⟩⟩
   |32,ho=>
    injection ho with ho;subst ho
    have gd:=hd 28 _ 48 rfl rfl ⟨⟨28,.guard⟩,by simp,rfl,rfl⟩;have e50:a.tmps[50]?.getD undef=.slice (some ⟨p1,o1,none⟩) n c1:=(RY.af a 50).trans (hd 30 _ 50 rfl rfl ⟨⟨30,.data⟩,by simp,rfl,rfl⟩);have e51:a.tmps[51]?.getD undef=.int .i64 (k:Int):=(RY.af a 51).trans (hd 31 _ 51 rfl rfl ⟨⟨31,.data⟩,by simp,rfl,rfl⟩);exact Or.inl ⟨(RY.ak rfl rfl rfl gd).trans rfl,Or.inl ⟨.pointer (some ⟨p1,o1+k*3,none⟩),X,by simp[execOp,go_sem,e50,e51,dd,de],zR,rfl⟩⟩
   |33,ho=>
    injection ho with ho;subst ho
    have gd:=hd 28 _ 48 rfl rfl ⟨⟨28,.guard⟩,by simp,rfl,rfl⟩;have e52:a.tmps[52]?.getD undef=.pointer (some ⟨p1,o1+k*3,none⟩):=(RY.af a 52).trans (hd 32 _ 52 rfl rfl ⟨⟨32,.data⟩,by simp,rfl,rfl⟩);exact Or.inl ⟨(RY.ak rfl rfl rfl gd).trans rfl,Or.inl ⟨.pointer (some ⟨p1,o1+k*3+2,none⟩),X,by simp[execOp,go_sem,e52],zR,rfl⟩⟩
   |34,ho=>
    injection ho with ho;subst ho
    have gd:=hd 28 _ 48 rfl rfl ⟨⟨28,.guard⟩,by simp,rfl,rfl⟩;have e53:a.tmps[53]?.getD undef=.pointer (some ⟨p1,o1+k*3+2,none⟩):=(RY.af a 53).trans (hd 33 _ 53 rfl rfl ⟨⟨33,.data⟩,by simp,rfl,rfl⟩);have ypl_:=zL ki.out hX.size;have ycl_:X.cell? ⟨p1,o1+k*3+2,none⟩=some (.slice a1 x.lines.length d1):=by have q:=aF (aA xI.out ki.out hX) 2 _ rfl;simpa using q
    exact Or.inl ⟨(RY.ak rfl rfl rfl gd).trans rfl,Or.inl ⟨.slice a1 x.lines.length d1,X,by simp[execOp,go_sem,e53,ycl_],zR,rfl⟩⟩
   |35,ho=>
    injection ho with ho;subst ho
    have gd:=hd 28 _ 48 rfl rfl ⟨⟨28,.guard⟩,by simp,rfl,rfl⟩;have e3:a.tmps[3]?.getD undef=.pointer (some ⟨b1,0,none⟩):=(RY.af a 3).trans ((hk 3 (by kernel_rfl)).trans rfl);exact Or.inl ⟨(RY.ak rfl rfl rfl gd).trans rfl,Or.inl ⟨.pointer (some ⟨b1,0,none⟩),X,by simp[execOp,go_sem,e3],zR,rfl⟩⟩
   |36,ho=>
    injection ho with ho;subst ho
    have gd:=hd 28 _ 48 rfl rfl ⟨⟨28,.guard⟩,by simp,rfl,rfl⟩;have e55:a.tmps[55]?.getD undef=.pointer (some ⟨b1,0,none⟩):=(RY.af a 55).trans (hd 35 _ 55 rfl rfl ⟨⟨35,.data⟩,by simp,rfl,rfl⟩);have ycl_:=zb1.get 0 _ rfl;exact Or.inl ⟨(RY.ak rfl rfl rfl gd).trans rfl,Or.inl ⟨.slice (some ⟨p2,o2,none⟩) n c2,X,by simp[execOp,go_sem,e55,ycl_],zR,rfl⟩⟩
   |37,ho=>
    injection ho with ho;subst ho
    have gd:=hd 28 _ 48 rfl rfl ⟨⟨28,.guard⟩,by simp,rfl,rfl⟩;have e5:a.tmps[5]?.getD undef=.int .i64 (k:Int):=(RY.af a 5).trans ((hk 5 (by kernel_rfl)).trans rfl);exact Or.inl ⟨(RY.ak rfl rfl rfl gd).trans rfl,Or.inl ⟨.int .i64 (k:Int),X,by simp[execOp,go_sem,e5],zR,rfl⟩⟩
   |38,ho=>
    injection ho with ho;subst ho
    have gd:=hd 28 _ 48 rfl rfl ⟨⟨28,.guard⟩,by simp,rfl,rfl⟩;have e56:a.tmps[56]?.getD undef=.slice (some ⟨p2,o2,none⟩) n c2:=(RY.af a 56).trans (hd 36 _ 56 rfl rfl ⟨⟨36,.data⟩,by simp,rfl,rfl⟩);have e57:a.tmps[57]?.getD undef=.int .i64 (k:Int):=(RY.af a 57).trans (hd 37 _ 57 rfl rfl ⟨⟨37,.data⟩,by simp,rfl,rfl⟩);exact Or.inl ⟨(RY.ak rfl rfl rfl gd).trans rfl,Or.inl ⟨.pointer (some ⟨p2,o2+k*3,none⟩),X,by simp[execOp,go_sem,e56,e57,dd,de],zR,rfl⟩⟩
   |39,ho=>
    injection ho with ho;subst ho
    have gd:=hd 28 _ 48 rfl rfl ⟨⟨28,.guard⟩,by simp,rfl,rfl⟩;have e58:a.tmps[58]?.getD undef=.pointer (some ⟨p2,o2+k*3,none⟩):=(RY.af a 58).trans (hd 38 _ 58 rfl rfl ⟨⟨38,.data⟩,by simp,rfl,rfl⟩);exact Or.inl ⟨(RY.ak rfl rfl rfl gd).trans rfl,Or.inl ⟨.pointer (some ⟨p2,o2+k*3+2,none⟩),X,by simp[execOp,go_sem,e58],zR,rfl⟩⟩
   |40,ho=>
    injection ho with ho;subst ho
    have gd:=hd 28 _ 48 rfl rfl ⟨⟨28,.guard⟩,by simp,rfl,rfl⟩;have e59:a.tmps[59]?.getD undef=.pointer (some ⟨p2,o2+k*3+2,none⟩):=(RY.af a 59).trans (hd 39 _ 59 rfl rfl ⟨⟨39,.data⟩,by simp,rfl,rfl⟩);have ypl_:=zL gO.out hX.size;have ycl_:X.cell? ⟨p2,o2+k*3+2,none⟩=some (.slice a2 x.lines.length d2):=by have q:=aF (aA mh.out gO.out hX) 2 _ rfl;simpa using q
    exact Or.inl ⟨(RY.ak rfl rfl rfl gd).trans rfl,Or.inl ⟨.slice a2 x.lines.length d2,X,by simp[execOp,go_sem,e59,ycl_],zR,rfl⟩⟩
   |41,ho=>
    injection ho with ho;subst ho
    have gd:=hd 28 _ 48 rfl rfl ⟨⟨28,.guard⟩,by simp,rfl,rfl⟩;have e54:a.tmps[54]?.getD undef=.slice a1 x.lines.length d1:=(RY.af a 54).trans (hd 34 _ 54 rfl rfl ⟨⟨34,.data⟩,by simp,rfl,rfl⟩);have e60:a.tmps[60]?.getD undef=.slice a2 x.lines.length d2:=(RY.af a 60).trans (hd 40 _ 60 rfl rfl ⟨⟨40,.data⟩,by simp,rfl,rfl⟩);refine Or.inl ⟨(RY.ak rfl rfl rfl gd).trans rfl,Or.inr ⟨14,#[.slice a1 x.lines.length d1,.slice a2 x.lines.length d2],by simp[go_sem,e54,e60],(vT.out X hX).mono ?_⟩⟩;rintro e W' ⟨rfl,hb⟩;exact⟨_,rfl,hb,rfl⟩
   |42,ho=>
    injection ho with ho;subst ho
    have gd:=hd 28 _ 48 rfl rfl ⟨⟨28,.guard⟩,by simp,rfl,rfl⟩;have e61:a.tmps[61]?.getD undef=.bool true:=(RY.af a 61).trans (hd 41 _ 61 rfl rfl ⟨⟨41,.data⟩,by simp,rfl,rfl⟩);exact Or.inl ⟨(RY.ak rfl rfl rfl gd).trans rfl,Or.inl ⟨.bool false,X,by simp[execOp,go_sem,e61],zR,rfl⟩⟩
   |43,ho=>
    injection ho with ho;subst ho
    have e48:a.tmps[48]?.getD undef=.bool false:=(RY.af a 48).trans (hd 28 _ 48 rfl rfl ⟨⟨28,.data⟩,by simp,rfl,rfl⟩);have e62:a.tmps[62]?.getD undef=.bool false:=(RY.af a 62).trans (hd 42 _ 62 rfl rfl ⟨⟨42,.data⟩,by simp,rfl,rfl⟩);exact Or.inl ⟨RY.al rfl,Or.inl ⟨.bool false,X,by simp[execOp,go_sem,e48,e62],zR,rfl⟩⟩
   |n+44,ho=>simp at ho
  intro X vs hX bd;have q63:vs 63=_:=bd 43 _ 63 rfl rfl;simp only[RY.aE,Act.put,List.setIfInBounds_toArray,List.set_cons_zero,List.set_cons_succ];rw[q63];generalize vs 20=s20;generalize vs 21=s21;generalize vs 22=s22;generalize vs 23=s23;generalize vs 24=s24;generalize vs 25=s25;generalize vs 26=s26;generalize vs 27=s27;generalize vs 28=s28;generalize vs 29=s29;generalize vs 30=s30;generalize vs 31=pY;generalize vs 32=o6;generalize vs 33=og;generalize vs 34=oz;generalize vs 35=k6;generalize vs 36=k9;generalize vs 37=lj;generalize vs 38=lY;generalize vs 39=mu;generalize vs 40=s40;generalize vs 41=s41;generalize vs 42=s42;generalize vs 43=s43;generalize vs 44=s44;generalize vs 45=s45;generalize vs 46=s46;generalize vs 47=s47;generalize vs 48=s48;generalize vs 49=s49;generalize vs 50=qG;generalize vs 51=s51;generalize vs 52=s52;generalize vs 53=s53;generalize vs 54=s54;generalize vs 55=s55;generalize vs 56=s56;generalize vs 57=s57;generalize vs 58=s58;generalize vs 59=s59;generalize vs 60=s60;generalize vs 61=s61;generalize vs 62=s62;clear bd q63;replace HB:=uh (ai HB.out hX)
  replace cu:=uh (cu.out.ae hX)
  replace fz:=uh (fz.out.ae hX)
  clear hX xI mh ki gO vT;go_wp2;go_roundw
  case rel=>exact⟨k+1,by omega,by go_num,HB.out,cu.out,fz.out⟩
  case measure=>simp[intOf];omega
end Go.Proofs.Ytmgibmmpopoboaa
