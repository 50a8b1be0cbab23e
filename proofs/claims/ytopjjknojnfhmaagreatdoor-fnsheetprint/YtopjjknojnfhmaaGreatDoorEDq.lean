import Derived.Lib.AppendZerosOnto
import Derived.Maps.AppendAt
import Derived.Laws.OwnMore
import Derived.Test.YtopjjknojnfhmaaGreatDoorEPv
import Derived.Test.YtopjjknojnfhmaaGreatDoorEDm
import Derived.Test.YtopjjknojnfhmaaGreatDoorEIg
import Derived.Test.YtopjjknojnfhmaaGreatDoorRgNw
import Derived.Test.YtopjjknojnfhmaaGreatDoorEIv
namespace Go.Proofs.YtopjjknojnfhmaaGreatDoor
set_option maxRecDepth 8000
set_option maxHeartbeats 40000000
open Go.RowKit Go.Deep
theorem yH {W:World} {ws:List ByteArray} {a:Option Addr} {c:Nat} (h:Raw W [.row 9 [.s]] [.row ws.length (txD ws)] [.slice a ws.length c]) {k:Nat} (hk:k<ws.length):∃ p o,a=some ⟨p,o,none⟩∧p<W.heap.size∧W.cell? ⟨p,o+k,none⟩=some (.string (ws.getD k ⟨#[]⟩)):=by
 rcases h.slice with⟨e0,_⟩|⟨p,o,c',hv,hp,_,vs,hr,hR⟩
 ·omega
 ·injection hv with g1 _ _
  obtain⟨ve,hE,hg⟩:=hR.el hk hr;have Rt:el 1 k (txD ws)=[.s (ws.getD k ⟨#[]⟩)]:=by exact gO ({data:=#[]}:ByteArray) Dt.s ws k hk
  have MQ:Raw W [.s] [.s (ws.getD k ⟨#[]⟩)] ve:=by rw[← Rt];exact hE
  obtain rfl:=zj MQ;exact⟨p,o,g1,hp,by have:=aE hg 0 _ rfl;simpa using this⟩
theorem CF (ws:List ByteArray) (a1 a2:Option Addr) (c1 c2:Nat) (W:World) (h1:Raw W [.row 9 [.s]] [.row ws.length (txD ws)] [.slice a1 ws.length c1]) (h2:Raw W [.row 9 [.s]] [.row ws.length (txD ws)] [.slice a2 ws.length c2]) (hl:ws.length≤4194304):
  Calls Tryz.prog 60 #[.slice a1 ws.length c1,.slice a2 ws.length c2] W fun e W'=>e=.returned (.bool true)∧Bel W W':=by
 have H1:=uh h1;have H2:=uh h2;clear h1 h2;obtain⟨n,hn⟩:∃ n,n=ws.length:=⟨_,rfl⟩
 have HN:=uh hn;rw[← hn]at hl ⊢;have d0:((n:Int) !=(n:Int))=false:=by simp
 clear hn;go_enter Tryz.func60,Tryz.ntmps60
 go_wp2;go_loopw [5] (fun i wr=>∃ k:Nat,k≤n∧i=.int .i64 k∧Hid (Bel W wr)) (fun i _=>n - (intOf i).toNat)
 case atStart=>exact⟨0,zN,rfl,zR⟩
 case round=>
  obtain⟨k,hk,rfl,HB⟩:=hrel;by_cases bd:k<n
  ·obtain⟨p1,o1,e1,sq,mJ⟩:=yH (H1.out.later HB.out) (k:=k) (by have:=HN.out;omega);obtain⟨p2,o2,e2,wQ,lQ⟩:=yH (H2.out.later HB.out) (k:=k) (by have:=HN.out;omega);subst e1;subst e2;obtain⟨x,hx⟩:∃ x,x=ws.getD k ⟨#[]⟩:=⟨_,rfl⟩
   rw[← hx]at mJ lQ;clear hx;have ec:(0:Int)≤(k:Int):=by omega
   have dP:(k:Int)<(n:Int):=by omega
   have Hw:(wr.drew).cell? ⟨p1,o1+k,none⟩=some (.string x):=mJ;have NR:(wr.drew).cell? ⟨p2,o2+k,none⟩=some (.string x):=lQ;have MV:(x.toList==x.toList)=true:=by simp
   go_wp2;go_region
   all_goals go_wp2
   all_goals go_roundw
   all_goals first
    |(case rel=>exact⟨k+1,by omega,by go_num,Below.drew HB.out⟩)
    |(case measure=>simp[intOf];omega)
  ·obtain rfl:k=n:=by omega
   go_wp2;go_ret;exact⟨rfl,HB.out⟩
def VWL (p1:Nat) (o1:Nat) (c1:Nat) (p2:Nat) (o2:Nat) (c2:Nat) (n:Nat) (k:Nat) (x:Pl.Ln) (a1:Option Addr) (a2:Option Addr) (d1:Nat) (d2:Nat):Nat→Value→World→Prop
 |0,vv,_=>vv=.slice (some ⟨p1,o1,none⟩) n c1
 |1,vv,_=>vv=.int .i64 (k:Int)
 |2,vv,_=>vv=.pointer (some ⟨p1,o1+k*2,none⟩)
 |3,vv,_=>vv=.pointer (some ⟨p1,o1+k*2,none⟩)
 |4,vv,_=>vv=.string x.key
 |5,vv,_=>vv=.slice (some ⟨p2,o2,none⟩) n c2
 |6,vv,_=>vv=.int .i64 (k:Int)
 |7,vv,_=>vv=.pointer (some ⟨p2,o2+k*2,none⟩)
 |8,vv,_=>vv=.pointer (some ⟨p2,o2+k*2,none⟩)
 |9,vv,_=>vv=.string x.key
 |10,vv,_=>vv=.bool false
 |11,vv,_=>vv=.bool false
 |12,vv,_=>vv=.slice (some ⟨p1,o1,none⟩) n c1
 |13,vv,_=>vv=.int .i64 (k:Int)
 |14,vv,_=>vv=.pointer (some ⟨p1,o1+k*2,none⟩)
 |15,vv,_=>vv=.pointer (some ⟨p1,o1+k*2+1,none⟩)
 |16,vv,_=>vv=.slice a1 x.ws.length d1
 |17,vv,_=>vv=.slice (some ⟨p2,o2,none⟩) n c2
 |18,vv,_=>vv=.int .i64 (k:Int)
 |19,vv,_=>vv=.pointer (some ⟨p2,o2+k*2,none⟩)
 |20,vv,_=>vv=.pointer (some ⟨p2,o2+k*2+1,none⟩)
 |21,vv,_=>vv=.slice a2 x.ws.length d2
 |22,vv,_=>vv=.bool true
 |23,vv,_=>vv=.bool false
 |24,vv,_=>vv=.bool false
 |_,_,_=>True
theorem CX (p1:Nat) (o1:Nat) (c1:Nat) (p2:Nat) (o2:Nat) (c2:Nat) (n:Nat) (k:Nat) (x:Pl.Ln) (a1:Option Addr) (a2:Option Addr) (d1:Nat) (d2:Nat):∀ jj vv W W',Bel W W'→VWL p1 o1 c1 p2 o2 c2 n k x a1 a2 d1 d2 jj vv W→VWL p1 o1 c1 p2 o2 c2 n k x a1 a2 d1 d2 jj vv W':=by
 intro jj vv W W' hb h;match jj with
 |0=>exact h
 |1=>exact h
 |2=>exact h
 |3=>exact h
 |4=>exact h
 |5=>exact h
 |6=>exact h
 |7=>exact h
 |8=>exact h
 |9=>exact h
 |10=>exact h
 |11=>exact h
 |12=>exact h
 |13=>exact h
 |14=>exact h
 |15=>exact h
 |16=>exact h
 |17=>exact h
 |18=>exact h
 |19=>exact h
 |20=>exact h
 |21=>exact h
 |22=>exact h
 |23=>exact h
 |24=>exact h
 |n+25=>exact trivial
def VWS (b0:Nat) (b1:Nat) (p1:Nat) (o1:Nat) (c1:Nat) (p2:Nat) (o2:Nat) (c2:Nat) (n:Nat) (k:Nat) (x:Pl.Bl) (a1:Option Addr) (a2:Option Addr) (d1:Nat) (d2:Nat):Nat→Value→World→Prop
 |0,vv,_=>vv=.pointer (some ⟨b0,0,none⟩)
 |1,vv,_=>vv=.slice (some ⟨p1,o1,none⟩) n c1
 |2,vv,_=>vv=.int .i64 (k:Int)
 |3,vv,_=>vv=.pointer (some ⟨p1,o1+k*3,none⟩)
 |4,vv,_=>vv=.pointer (some ⟨p1,o1+k*3,none⟩)
 |5,vv,_=>vv=.string x.kind
 |6,vv,_=>vv=.pointer (some ⟨b1,0,none⟩)
 |7,vv,_=>vv=.slice (some ⟨p2,o2,none⟩) n c2
 |8,vv,_=>vv=.int .i64 (k:Int)
 |9,vv,_=>vv=.pointer (some ⟨p2,o2+k*3,none⟩)
 |10,vv,_=>vv=.pointer (some ⟨p2,o2+k*3,none⟩)
 |11,vv,_=>vv=.string x.kind
 |12,vv,_=>vv=.bool false
 |13,vv,_=>vv=.bool false
 |14,vv,_=>vv=.pointer (some ⟨b0,0,none⟩)
 |15,vv,_=>vv=.slice (some ⟨p1,o1,none⟩) n c1
 |16,vv,_=>vv=.int .i64 (k:Int)
 |17,vv,_=>vv=.pointer (some ⟨p1,o1+k*3,none⟩)
 |18,vv,_=>vv=.pointer (some ⟨p1,o1+k*3+1,none⟩)
 |19,vv,_=>vv=.string x.name
 |20,vv,_=>vv=.pointer (some ⟨b1,0,none⟩)
 |21,vv,_=>vv=.slice (some ⟨p2,o2,none⟩) n c2
 |22,vv,_=>vv=.int .i64 (k:Int)
 |23,vv,_=>vv=.pointer (some ⟨p2,o2+k*3,none⟩)
 |24,vv,_=>vv=.pointer (some ⟨p2,o2+k*3+1,none⟩)
 |25,vv,_=>vv=.string x.name
 |26,vv,_=>vv=.bool false
 |27,vv,_=>vv=.bool false
 |28,vv,_=>vv=.bool false
 |29,vv,_=>vv=.pointer (some ⟨b0,0,none⟩)
 |30,vv,_=>vv=.slice (some ⟨p1,o1,none⟩) n c1
 |31,vv,_=>vv=.int .i64 (k:Int)
 |32,vv,_=>vv=.pointer (some ⟨p1,o1+k*3,none⟩)
 |33,vv,_=>vv=.pointer (some ⟨p1,o1+k*3+2,none⟩)
 |34,vv,_=>vv=.slice a1 x.lines.length d1
 |35,vv,_=>vv=.pointer (some ⟨b1,0,none⟩)
 |36,vv,_=>vv=.slice (some ⟨p2,o2,none⟩) n c2
 |37,vv,_=>vv=.int .i64 (k:Int)
 |38,vv,_=>vv=.pointer (some ⟨p2,o2+k*3,none⟩)
 |39,vv,_=>vv=.pointer (some ⟨p2,o2+k*3+2,none⟩)
 |40,vv,_=>vv=.slice a2 x.lines.length d2
 |41,vv,_=>vv=.bool true
 |42,vv,_=>vv=.bool false
 |43,vv,_=>vv=.bool false
 |_,_,_=>True
theorem DH (b0:Nat) (b1:Nat) (p1:Nat) (o1:Nat) (c1:Nat) (p2:Nat) (o2:Nat) (c2:Nat) (n:Nat) (k:Nat) (x:Pl.Bl) (a1:Option Addr) (a2:Option Addr) (d1:Nat) (d2:Nat):∀ jj vv W W',Bel W W'→VWS b0 b1 p1 o1 c1 p2 o2 c2 n k x a1 a2 d1 d2 jj vv W→VWS b0 b1 p1 o1 c1 p2 o2 c2 n k x a1 a2 d1 d2 jj vv W':=by
 intro jj vv W W' hb h;match jj with
 |0=>exact h
 |1=>exact h
 |2=>exact h
 |3=>exact h
 |4=>exact h
 |5=>exact h
 |6=>exact h
 |7=>exact h
 |8=>exact h
 |9=>exact h
 |10=>exact h
 |11=>exact h
 |12=>exact h
 |13=>exact h
 |14=>exact h
 |15=>exact h
 |16=>exact h
 |17=>exact h
 |18=>exact h
 |19=>exact h
 |20=>exact h
 |21=>exact h
 |22=>exact h
 |23=>exact h
 |24=>exact h
 |25=>exact h
 |26=>exact h
 |27=>exact h
 |28=>exact h
 |29=>exact h
 |30=>exact h
 |31=>exact h
 |32=>exact h
 |33=>exact h
 |34=>exact h
 |35=>exact h
 |36=>exact h
 |37=>exact h
 |38=>exact h
 |39=>exact h
 |40=>exact h
 |41=>exact h
 |42=>exact h
 |43=>exact h
 |n+44=>exact trivial
theorem Dr (l:List Pl.Ln) (v1 v2:Value) (W:World) (h1:Raw W bF [bT l] [v1]) (h2:Raw W bF [bT l] [v2]) (hl:l.length≤4194304) (hw:∀ x∈l,x.ws.length≤4194304):
  Calls Tryz.prog 33 #[v1,v2] W fun e W'=>e=.returned (.bool true)∧Bel W W':=by
 have H1:=uh h1;have H2:=uh h2;have Q6:=uh hw;obtain⟨q1,c1,e1⟩:=h1.bm;obtain⟨q2,c2,e2⟩:=h2.bm;subst e1;subst e2;clear h1 h2 hw;obtain⟨n,hn⟩:∃ n,n=l.length:=⟨_,rfl⟩
 have HN:=uh hn;have HB:Hid (Bel W W):=zR;rw[← hn]at hl ⊢;have d0:((n:Int) !=(n:Int))=false:=by simp
 clear hn;go_enter Tryz.func33,Tryz.ntmps33
 go_wp2;go_loopw [5] (fun i wr=>∃ k:Nat,k≤n∧i=.int .i64 k∧Bel W wr) (fun i _=>n - (intOf i).toNat)
 case atStart=>exact⟨0,zN,rfl,HB.out⟩
 case round=>
  obtain⟨k,hk,rfl,hB⟩:=hrel;replace HB:=uh hB
  clear hB;by_cases bd:k<n
  rotate_left
  ·obtain rfl:k=n:=by omega
   go_wp2;go_ret;exact⟨rfl,HB.out⟩
  have iF:k<l.length:=by have:=HN.out;omega
  rcases cE (H1.out.later HB.out) with⟨e0,_⟩|⟨p1,o1,R6,fy,sq,_,qb⟩
  ·omega
  rcases cE (H2.out.later HB.out) with⟨e0,_⟩|⟨p2,o2,MO,iI,wQ,_,jJ⟩
  ·omega
  injection fy with g1 _ g3
  subst g1;subst g3;injection iI with g1 _ g3
  subst g1;subst g3;obtain⟨a1,d1,fo,oM⟩:=qb k iF;obtain⟨a2,d2,ny,mF⟩:=jJ k iF;have gD:(l.getD k Pl.aK).ws.length≤4194304:=Q6.out _ (by simp[iF]);obtain⟨x,hx⟩:∃ x,x=l.getD k Pl.aK:=⟨_,rfl⟩
  rw[← hx]at fo ny oM mF gD;have ow:=uh (fun (X:World) (hX:Bel wr X)=>CF x.ws a1 a2 d1 d2 X (oM.later hX) (mF.later hX) (by omega));have Fv:=uh fo;have oD:=uh ny;have kY:=uh sq;have hU:=uh wQ;have ec:(0:Int)≤(k:Int):=by omega
  have dP:(k:Int)<(n:Int):=by omega
  clear hx fo ny oM mF qb jJ sq wQ gD iF;go_upto_region 6 with fail
  refine RY.aH wr zR (VWL p1 o1 c1 p2 o2 c2 n k x a1 a2 d1 d2) (CX _ _ _ _ _ _ _ _ _ _ _ _ _) (by kernel_rfl) (by kernel_rfl) (by kernel_rfl) (by kernel_rfl) ?_ ?_
  ·intro ii o' ho a X hX hk hd;match ii,ho with
   |0,ho=>
    injection ho with ho;subst ho
    have e0:a.tmps[0]?.getD undef=.slice (some ⟨p1,o1,none⟩) n c1:=(RY.af a 0).trans ((hk 0 (by kernel_rfl)).trans rfl);exact Or.inl ⟨RY.au rfl,Or.inl ⟨.slice (some ⟨p1,o1,none⟩) n c1,X,by simp[execOp,go_sem,e0],zR,rfl⟩⟩
   |1,ho=>
    injection ho with ho;subst ho
    have e5:a.tmps[5]?.getD undef=.int .i64 (k:Int):=(RY.af a 5).trans ((hk 5 (by kernel_rfl)).trans rfl);exact Or.inl ⟨RY.au rfl,Or.inl ⟨.int .i64 (k:Int),X,by simp[execOp,go_sem,e5],zR,rfl⟩⟩
   |2,ho=>
    injection ho with ho;subst ho
    have e17:a.tmps[17]?.getD undef=.slice (some ⟨p1,o1,none⟩) n c1:=(RY.af a 17).trans (hd 0 _ 17 rfl rfl ⟨⟨0,.data⟩,by simp,rfl,rfl⟩);have e18:a.tmps[18]?.getD undef=.int .i64 (k:Int):=(RY.af a 18).trans (hd 1 _ 18 rfl rfl ⟨⟨1,.data⟩,by simp,rfl,rfl⟩);exact Or.inl ⟨RY.au rfl,Or.inl ⟨.pointer (some ⟨p1,o1+k*2,none⟩),X,by simp[execOp,go_sem,e17,e18,ec,dP],zR,rfl⟩⟩
   |3,ho=>
    injection ho with ho;subst ho
    have e19:a.tmps[19]?.getD undef=.pointer (some ⟨p1,o1+k*2,none⟩):=(RY.af a 19).trans (hd 2 _ 19 rfl rfl ⟨⟨2,.data⟩,by simp,rfl,rfl⟩);exact Or.inl ⟨RY.au rfl,Or.inl ⟨.pointer (some ⟨p1,o1+k*2,none⟩),X,by simp[execOp,go_sem,e19],zR,rfl⟩⟩
   |4,ho=>
    injection ho with ho;subst ho
    have e20:a.tmps[20]?.getD undef=.pointer (some ⟨p1,o1+k*2,none⟩):=(RY.af a 20).trans (hd 3 _ 20 rfl rfl ⟨⟨3,.data⟩,by simp,rfl,rfl⟩);have ypl_:=zL kY.out hX.size;have ycl_:X.cell? ⟨p1,o1+k*2,none⟩=some (.string x.key):=by have q:=aE (aB Fv.out kY.out hX) 0 _ rfl;simpa using q
    exact Or.inl ⟨RY.au rfl,Or.inl ⟨.string x.key,X,by simp[execOp,go_sem,e20,ycl_],zR,rfl⟩⟩
   |5,ho=>
    injection ho with ho;subst ho
    have e1:a.tmps[1]?.getD undef=.slice (some ⟨p2,o2,none⟩) n c2:=(RY.af a 1).trans ((hk 1 (by kernel_rfl)).trans rfl);exact Or.inl ⟨RY.au rfl,Or.inl ⟨.slice (some ⟨p2,o2,none⟩) n c2,X,by simp[execOp,go_sem,e1],zR,rfl⟩⟩
   |6,ho=>
    injection ho with ho;subst ho
    have e5:a.tmps[5]?.getD undef=.int .i64 (k:Int):=(RY.af a 5).trans ((hk 5 (by kernel_rfl)).trans rfl);exact Or.inl ⟨RY.au rfl,Or.inl ⟨.int .i64 (k:Int),X,by simp[execOp,go_sem,e5],zR,rfl⟩⟩
   |7,ho=>
    injection ho with ho;subst ho
    have e22:a.tmps[22]?.getD undef=.slice (some ⟨p2,o2,none⟩) n c2:=(RY.af a 22).trans (hd 5 _ 22 rfl rfl ⟨⟨5,.data⟩,by simp,rfl,rfl⟩);have e23:a.tmps[23]?.getD undef=.int .i64 (k:Int):=(RY.af a 23).trans (hd 6 _ 23 rfl rfl ⟨⟨6,.data⟩,by simp,rfl,rfl⟩);exact Or.inl ⟨RY.au rfl,Or.inl ⟨.pointer (some ⟨p2,o2+k*2,none⟩),X,by simp[execOp,go_sem,e22,e23,ec,dP],zR,rfl⟩⟩
   |8,ho=>
    injection ho with ho;subst ho
    have e24:a.tmps[24]?.getD undef=.pointer (some ⟨p2,o2+k*2,none⟩):=(RY.af a 24).trans (hd 7 _ 24 rfl rfl ⟨⟨7,.data⟩,by simp,rfl,rfl⟩);exact Or.inl ⟨RY.au rfl,Or.inl ⟨.pointer (some ⟨p2,o2+k*2,none⟩),X,by simp[execOp,go_sem,e24],zR,rfl⟩⟩
   |9,ho=>
    injection ho with ho;subst ho
    have e25:a.tmps[25]?.getD undef=.pointer (some ⟨p2,o2+k*2,none⟩):=(RY.af a 25).trans (hd 8 _ 25 rfl rfl ⟨⟨8,.data⟩,by simp,rfl,rfl⟩);have ypl_:=zL hU.out hX.size;have ycl_:X.cell? ⟨p2,o2+k*2,none⟩=some (.string x.key):=by have q:=aE (aB oD.out hU.out hX) 0 _ rfl;simpa using q
    exact Or.inl ⟨RY.au rfl,Or.inl ⟨.string x.key,X,by simp[execOp,go_sem,e25,ycl_],zR,rfl⟩⟩
   |10,ho=>
    injection ho with ho;subst ho
    have e21:a.tmps[21]?.getD undef=.string x.key:=(RY.af a 21).trans (hd 4 _ 21 rfl rfl ⟨⟨4,.data⟩,by simp,rfl,rfl⟩);have e26:a.tmps[26]?.getD undef=.string x.key:=(RY.af a 26).trans (hd 9 _ 26 rfl rfl ⟨⟨9,.data⟩,by simp,rfl,rfl⟩);exact Or.inl ⟨RY.au rfl,Or.inl ⟨.bool false,X,by simp[execOp,go_sem,e21,e26],zR,rfl⟩⟩
   |11,ho=>
    injection ho with ho;subst ho
    have e27:a.tmps[27]?.getD undef=.bool false:=(RY.af a 27).trans (hd 10 _ 27 rfl rfl ⟨⟨10,.data⟩,by simp,rfl,rfl⟩);exact Or.inl ⟨RY.au rfl,Or.inl ⟨.bool false,X,by simp[execOp,go_sem,e27],zR,rfl⟩⟩
   |12,ho=>
    injection ho with ho;subst ho
    have gd:=hd 11 _ 28 rfl rfl ⟨⟨11,.guard⟩,by simp,rfl,rfl⟩;have e0:a.tmps[0]?.getD undef=.slice (some ⟨p1,o1,none⟩) n c1:=(RY.af a 0).trans ((hk 0 (by kernel_rfl)).trans rfl);exact Or.inl ⟨(RY.aj rfl rfl rfl gd).trans rfl,Or.inl ⟨.slice (some ⟨p1,o1,none⟩) n c1,X,by simp[execOp,go_sem,e0],zR,rfl⟩⟩
   |13,ho=>
    injection ho with ho;subst ho
    have gd:=hd 11 _ 28 rfl rfl ⟨⟨11,.guard⟩,by simp,rfl,rfl⟩;have e5:a.tmps[5]?.getD undef=.int .i64 (k:Int):=(RY.af a 5).trans ((hk 5 (by kernel_rfl)).trans rfl);exact Or.inl ⟨(RY.aj rfl rfl rfl gd).trans rfl,Or.inl ⟨.int .i64 (k:Int),X,by simp[execOp,go_sem,e5],zR,rfl⟩⟩
   |14,ho=>
    injection ho with ho;subst ho
    have gd:=hd 11 _ 28 rfl rfl ⟨⟨11,.guard⟩,by simp,rfl,rfl⟩;have e29:a.tmps[29]?.getD undef=.slice (some ⟨p1,o1,none⟩) n c1:=(RY.af a 29).trans (hd 12 _ 29 rfl rfl ⟨⟨12,.data⟩,by simp,rfl,rfl⟩);have e30:a.tmps[30]?.getD undef=.int .i64 (k:Int):=(RY.af a 30).trans (hd 13 _ 30 rfl rfl ⟨⟨13,.data⟩,by simp,rfl,rfl⟩);exact Or.inl ⟨(RY.aj rfl rfl rfl gd).trans rfl,Or.inl ⟨.pointer (some ⟨p1,o1+k*2,none⟩),X,by simp[execOp,go_sem,e29,e30,ec,dP],zR,rfl⟩⟩
   |15,ho=>
    injection ho with ho;subst ho
    have gd:=hd 11 _ 28 rfl rfl ⟨⟨11,.guard⟩,by simp,rfl,rfl⟩;have e31:a.tmps[31]?.getD undef=.pointer (some ⟨p1,o1+k*2,none⟩):=(RY.af a 31).trans (hd 14 _ 31 rfl rfl ⟨⟨14,.data⟩,by simp,rfl,rfl⟩);exact Or.inl ⟨(RY.aj rfl rfl rfl gd).trans rfl,Or.inl ⟨.pointer (some ⟨p1,o1+k*2+1,none⟩),X,by simp[execOp,go_sem,e31],zR,rfl⟩⟩
   |16,ho=>
    injection ho with ho;subst ho
    have gd:=hd 11 _ 28 rfl rfl ⟨⟨11,.guard⟩,by simp,rfl,rfl⟩;have e32:a.tmps[32]?.getD undef=.pointer (some ⟨p1,o1+k*2+1,none⟩):=(RY.af a 32).trans (hd 15 _ 32 rfl rfl ⟨⟨15,.data⟩,by simp,rfl,rfl⟩);have ypl_:=zL kY.out hX.size;have ycl_:X.cell? ⟨p1,o1+k*2+1,none⟩=some (.slice a1 x.ws.length d1):=by have q:=aE (aB Fv.out kY.out hX) 1 _ rfl;simpa using q
    exact Or.inl ⟨(RY.aj rfl rfl rfl gd).trans rfl,Or.inl ⟨.slice a1 x.ws.length d1,X,by simp[execOp,go_sem,e32,ycl_],zR,rfl⟩⟩
   |17,ho=>
    injection ho with ho;subst ho
    have gd:=hd 11 _ 28 rfl rfl ⟨⟨11,.guard⟩,by simp,rfl,rfl⟩;have e1:a.tmps[1]?.getD undef=.slice (some ⟨p2,o2,none⟩) n c2:=(RY.af a 1).trans ((hk 1 (by kernel_rfl)).trans rfl);exact Or.inl ⟨(RY.aj rfl rfl rfl gd).trans rfl,Or.inl ⟨.slice (some ⟨p2,o2,none⟩) n c2,X,by simp[execOp,go_sem,e1],zR,rfl⟩⟩
   |18,ho=>
    injection ho with ho;subst ho
    have gd:=hd 11 _ 28 rfl rfl ⟨⟨11,.guard⟩,by simp,rfl,rfl⟩;have e5:a.tmps[5]?.getD undef=.int .i64 (k:Int):=(RY.af a 5).trans ((hk 5 (by kernel_rfl)).trans rfl);exact Or.inl ⟨(RY.aj rfl rfl rfl gd).trans rfl,Or.inl ⟨.int .i64 (k:Int),X,by simp[execOp,go_sem,e5],zR,rfl⟩⟩
   |19,ho=>
    injection ho with ho;subst ho
    have gd:=hd 11 _ 28 rfl rfl ⟨⟨11,.guard⟩,by simp,rfl,rfl⟩;have e34:a.tmps[34]?.getD undef=.slice (some ⟨p2,o2,none⟩) n c2:=(RY.af a 34).trans (hd 17 _ 34 rfl rfl ⟨⟨17,.data⟩,by simp,rfl,rfl⟩);have e35:a.tmps[35]?.getD undef=.int .i64 (k:Int):=(RY.af a 35).trans (hd 18 _ 35 rfl rfl ⟨⟨18,.data⟩,by simp,rfl,rfl⟩);exact Or.inl ⟨(RY.aj rfl rfl rfl gd).trans rfl,Or.inl ⟨.pointer (some ⟨p2,o2+k*2,none⟩),X,by simp[execOp,go_sem,e34,e35,ec,dP],zR,rfl⟩⟩
   |20,ho=>
    injection ho with ho;subst ho
    have gd:=hd 11 _ 28 rfl rfl ⟨⟨11,.guard⟩,by simp,rfl,rfl⟩;have e36:a.tmps[36]?.getD undef=.pointer (some ⟨p2,o2+k*2,none⟩):=(RY.af a 36).trans (hd 19 _ 36 rfl rfl ⟨⟨19,.data⟩,by simp,rfl,rfl⟩);exact Or.inl ⟨(RY.aj rfl rfl rfl gd).trans rfl,Or.inl ⟨.pointer (some ⟨p2,o2+k*2+1,none⟩),X,by simp[execOp,go_sem,e36],zR,rfl⟩⟩
   |21,ho=>
    injection ho with ho;subst ho
    have gd:=hd 11 _ 28 rfl rfl ⟨⟨11,.guard⟩,by simp,rfl,rfl⟩;have e37:a.tmps[37]?.getD undef=.pointer (some ⟨p2,o2+k*2+1,none⟩):=(RY.af a 37).trans (hd 20 _ 37 rfl rfl ⟨⟨20,.data⟩,by simp,rfl,rfl⟩);have ypl_:=zL hU.out hX.size;have ycl_:X.cell? ⟨p2,o2+k*2+1,none⟩=some (.slice a2 x.ws.length d2):=by have q:=aE (aB oD.out hU.out hX) 1 _ rfl;simpa using q
    exact Or.inl ⟨(RY.aj rfl rfl rfl gd).trans rfl,Or.inl ⟨.slice a2 x.ws.length d2,X,by simp[execOp,go_sem,e37,ycl_],zR,rfl⟩⟩
   |22,ho=>
    injection ho with ho;subst ho
    have gd:=hd 11 _ 28 rfl rfl ⟨⟨11,.guard⟩,by simp,rfl,rfl⟩;have e33:a.tmps[33]?.getD undef=.slice a1 x.ws.length d1:=(RY.af a 33).trans (hd 16 _ 33 rfl rfl ⟨⟨16,.data⟩,by simp,rfl,rfl⟩);have e38:a.tmps[38]?.getD undef=.slice a2 x.ws.length d2:=(RY.af a 38).trans (hd 21 _ 38 rfl rfl ⟨⟨21,.data⟩,by simp,rfl,rfl⟩);refine Or.inl ⟨(RY.aj rfl rfl rfl gd).trans rfl,Or.inr ⟨60,#[.slice a1 x.ws.length d1,.slice a2 x.ws.length d2],by simp[go_sem,e33,e38],(ow.out X hX).mono ?_⟩⟩;rintro e W' ⟨rfl,hb⟩;exact⟨_,rfl,hb,rfl⟩
   |23,ho=>
    injection ho with ho;subst ho
    have gd:=hd 11 _ 28 rfl rfl ⟨⟨11,.guard⟩,by simp,rfl,rfl⟩;have e39:a.tmps[39]?.getD undef=.bool true:=(RY.af a 39).trans (hd 22 _ 39 rfl rfl ⟨⟨22,.data⟩,by simp,rfl,rfl⟩);exact Or.inl ⟨(RY.aj rfl rfl rfl gd).trans rfl,Or.inl ⟨.bool false,X,by simp[execOp,go_sem,e39],zR,rfl⟩⟩
   |24,ho=>
    injection ho with ho;subst ho
    have e28:a.tmps[28]?.getD undef=.bool false:=(RY.af a 28).trans (hd 11 _ 28 rfl rfl ⟨⟨11,.data⟩,by simp,rfl,rfl⟩);have e40:a.tmps[40]?.getD undef=.bool false:=(RY.af a 40).trans (hd 23 _ 40 rfl rfl ⟨⟨23,.data⟩,by simp,rfl,rfl⟩);exact Or.inl ⟨RY.au rfl,Or.inl ⟨.bool false,X,by simp[execOp,go_sem,e28,e40],zR,rfl⟩⟩
   |n+25,ho=>simp at ho
  intro X vs hX bg;have q41:vs 41=_:=bg 24 _ 41 rfl rfl;simp only[RY.aC,Act.put,List.setIfInBounds_toArray,List.set_cons_zero,List.set_cons_succ];rw[q41];generalize vs 17=s17;generalize vs 18=s18;generalize vs 19=s19;generalize vs 20=s20;generalize vs 21=s21;generalize vs 22=s22;generalize vs 23=s23;generalize vs 24=s24;generalize vs 25=s25;generalize vs 26=s26;generalize vs 27=s27;generalize vs 28=s28;generalize vs 29=s29;generalize vs 30=s30;generalize vs 31=sr;generalize vs 32=qw;generalize vs 33=qM;generalize vs 34=qX;generalize vs 35=lN;generalize vs 36=lI;generalize vs 37=lR;generalize vs 38=nu;generalize vs 39=nS;generalize vs 40=s40;clear bg q41;replace HB:=uh (ah HB.out hX)
  clear hX Fv oD kY hU ow;go_wp2;go_roundw
  case rel=>exact⟨k+1,by omega,by go_num,HB.out⟩
  case measure=>simp[intOf];omega
theorem DT (s:List Pl.Bl) (v1 v2:Value) (W:World) (h1:Raw W bu [bD s] [v1]) (h2:Raw W bu [bD s] [v2]) (hl:s.length≤4194304) (hw:∀ b∈s,b.lines.length≤4194304∧∀ x∈b.lines,x.ws.length≤4194304):
  Calls Tryz.prog 10 #[.agg #[v1],.agg #[v2]] W fun e W'=>e=.returned (.bool true)∧Bel W W':=by
 have H1:=uh h1;have H2:=uh h2;have Q6:=uh hw;obtain⟨q1,c1,e1⟩:=h1.bm;obtain⟨q2,c2,e2⟩:=h2.bm;subst e1;subst e2;clear h1 h2 hw;obtain⟨n,hn⟩:∃ n,n=s.length:=⟨_,rfl⟩
 have HN:=uh hn;rw[← hn]at hl ⊢;have d0:((n:Int) !=(n:Int))=false:=by simp
 clear hn;obtain⟨wa,aZ⟩:∃ wa,wa=(W.alloc (.cells #[.slice q1 n c1] 25)).alloc (.cells #[.slice q2 n c2] 25):=⟨_,rfl⟩
 obtain⟨b0,cd⟩:∃ b0,b0=W.heap.size:=⟨_,rfl⟩
 obtain⟨b1,bJ⟩:∃ b1,b1=b0+1:=⟨_,rfl⟩
 have HB:Hid (Bel W wa):=by show Below _ _ _;rw[aZ];exact ae (ae zR _) _
 have cL:Hid (aS wa b0 [.slice q1 n c1]):=by show aS _ _ _;rw[aZ,cd];exact(aS.new W #[.slice q1 n c1] _ _ rfl).lf _
 have gE:Hid (aS wa b1 [.slice q2 n c2]):=by show aS _ _ _;rw[aZ,bJ,cd];exact aS.new (W.alloc (.cells #[.slice q1 n c1] 25)) #[.slice q2 n c2] _ _ (by simp)
 have HZ:Hid (b0<wa.heap.size∧b1<wa.heap.size):=⟨cL.out.lt,gE.out.lt⟩
 go_enter Tryz.func10,Tryz.ntmps10
 go_upto_region 1 with fail
 rw[← aZ,← cd,← bJ];clear aZ bJ cd;have x0:=cL.out.get 0 _ rfl;have xl:=cL.out.lt;have y0:=gE.out.get 0 _ rfl;have yl:=gE.out.lt;go_wp2;clear x0 xl y0 yl;go_loopw [5] (fun i wr=>∃ k:Nat,k≤n∧i=.int .i64 k∧Bel W wr∧aS wr b0 [.slice q1 n c1]∧aS wr b1 [.slice q2 n c2]) (fun i _=>n - (intOf i).toNat)
 case atStart=>exact⟨0,zN,rfl,HB.out,cL.out,gE.out⟩
 case round=>
  obtain⟨k,hk,rfl,hB,mB,hB1⟩:=hrel;replace HB:=uh hB
  replace cL:=uh mB
  replace gE:=uh hB1
  clear hB mB hB1 HZ;by_cases bd:k<n
  rotate_left
  ·obtain rfl:k=n:=by omega
   have x0:=cL.out.get 0 _ rfl;have xl:=cL.out.lt;go_wp2;go_ret;exact⟨rfl,HB.out⟩
  have iF:k<s.length:=by have:=HN.out;omega
  rcases db (H1.out.later HB.out) with⟨e0,_⟩|⟨p1,o1,R6,fy,sq,_,qb⟩
  ·omega
  rcases db (H2.out.later HB.out) with⟨e0,_⟩|⟨p2,o2,MO,iI,wQ,_,jJ⟩
  ·omega
  injection fy with g1 _ g3
  subst g1;subst g3;injection iI with g1 _ g3
  subst g1;subst g3;obtain⟨a1,d1,fo,oM⟩:=qb k iF;obtain⟨a2,d2,ny,mF⟩:=jJ k iF;have gD:=Q6.out (s.getD k Pl.aN) (by simp[iF]);obtain⟨x,hx⟩:∃ x,x=s.getD k Pl.aN:=⟨_,rfl⟩
  rw[← hx]at fo ny oM mF gD;have ow:=uh (fun (X:World) (hX:Bel wr X)=>Dr x.lines (.slice a1 x.lines.length d1) (.slice a2 x.lines.length d2) X (oM.later hX) (mF.later hX) gD.1 gD.2);have Fv:=uh fo;have oD:=uh ny;have kY:=uh sq;have hU:=uh wQ;have ec:(0:Int)≤(k:Int):=by omega
  have dP:(k:Int)<(n:Int):=by omega
  have x0:=cL.out.get 0 _ rfl;have xl:=cL.out.lt;clear hx fo ny oM mF qb jJ sq wQ gD iF;go_upto_region 6 with fail
  clear x0 xl;refine RY.aH wr zR (VWS b0 b1 p1 o1 c1 p2 o2 c2 n k x a1 a2 d1 d2) (DH _ _ _ _ _ _ _ _ _ _ _ _ _ _ _) (by kernel_rfl) (by kernel_rfl) (by kernel_rfl) (by kernel_rfl) ?_ ?_
  ·intro ii o' ho a X hX hk hd;have zb0:=cL.out.later hX;have zb0l:=zb0.lt;have zb1:=gE.out.later hX;have zb1l:=zb1.lt;match ii,ho with
   |0,ho=>
    injection ho with ho;subst ho
    have e2:a.tmps[2]?.getD undef=.pointer (some ⟨b0,0,none⟩):=(RY.af a 2).trans ((hk 2 (by kernel_rfl)).trans rfl);exact Or.inl ⟨RY.au rfl,Or.inl ⟨.pointer (some ⟨b0,0,none⟩),X,by simp[execOp,go_sem,e2],zR,rfl⟩⟩
   |1,ho=>
    injection ho with ho;subst ho
    have e20:a.tmps[20]?.getD undef=.pointer (some ⟨b0,0,none⟩):=(RY.af a 20).trans (hd 0 _ 20 rfl rfl ⟨⟨0,.data⟩,by simp,rfl,rfl⟩);have ycl_:=zb0.get 0 _ rfl;exact Or.inl ⟨RY.au rfl,Or.inl ⟨.slice (some ⟨p1,o1,none⟩) n c1,X,by simp[execOp,go_sem,e20,ycl_],zR,rfl⟩⟩
   |2,ho=>
    injection ho with ho;subst ho
    have e5:a.tmps[5]?.getD undef=.int .i64 (k:Int):=(RY.af a 5).trans ((hk 5 (by kernel_rfl)).trans rfl);exact Or.inl ⟨RY.au rfl,Or.inl ⟨.int .i64 (k:Int),X,by simp[execOp,go_sem,e5],zR,rfl⟩⟩
   |3,ho=>
    injection ho with ho;subst ho
    have e21:a.tmps[21]?.getD undef=.slice (some ⟨p1,o1,none⟩) n c1:=(RY.af a 21).trans (hd 1 _ 21 rfl rfl ⟨⟨1,.data⟩,by simp,rfl,rfl⟩);have e22:a.tmps[22]?.getD undef=.int .i64 (k:Int):=(RY.af a 22).trans (hd 2 _ 22 rfl rfl ⟨⟨2,.data⟩,by simp,rfl,rfl⟩);exact Or.inl ⟨RY.au rfl,Or.inl ⟨.pointer (some ⟨p1,o1+k*3,none⟩),X,by simp[execOp,go_sem,e21,e22,ec,dP],zR,rfl⟩⟩
   |4,ho=>
    injection ho with ho;subst ho
    have e23:a.tmps[23]?.getD undef=.pointer (some ⟨p1,o1+k*3,none⟩):=(RY.af a 23).trans (hd 3 _ 23 rfl rfl ⟨⟨3,.data⟩,by simp,rfl,rfl⟩);exact Or.inl ⟨RY.au rfl,Or.inl ⟨.pointer (some ⟨p1,o1+k*3,none⟩),X,by simp[execOp,go_sem,e23],zR,rfl⟩⟩
   |5,ho=>
    injection ho with ho;subst ho
    have e24:a.tmps[24]?.getD undef=.pointer (some ⟨p1,o1+k*3,none⟩):=(RY.af a 24).trans (hd 4 _ 24 rfl rfl ⟨⟨4,.data⟩,by simp,rfl,rfl⟩);have ypl_:=zL kY.out hX.size;have ycl_:X.cell? ⟨p1,o1+k*3,none⟩=some (.string x.kind):=by have q:=aE (aB Fv.out kY.out hX) 0 _ rfl;simpa using q
    exact Or.inl ⟨RY.au rfl,Or.inl ⟨.string x.kind,X,by simp[execOp,go_sem,e24,ycl_],zR,rfl⟩⟩
   |6,ho=>
    injection ho with ho;subst ho
    have e3:a.tmps[3]?.getD undef=.pointer (some ⟨b1,0,none⟩):=(RY.af a 3).trans ((hk 3 (by kernel_rfl)).trans rfl);exact Or.inl ⟨RY.au rfl,Or.inl ⟨.pointer (some ⟨b1,0,none⟩),X,by simp[execOp,go_sem,e3],zR,rfl⟩⟩
   |7,ho=>
    injection ho with ho;subst ho
    have e26:a.tmps[26]?.getD undef=.pointer (some ⟨b1,0,none⟩):=(RY.af a 26).trans (hd 6 _ 26 rfl rfl ⟨⟨6,.data⟩,by simp,rfl,rfl⟩);have ycl_:=zb1.get 0 _ rfl;exact Or.inl ⟨RY.au rfl,Or.inl ⟨.slice (some ⟨p2,o2,none⟩) n c2,X,by simp[execOp,go_sem,e26,ycl_],zR,rfl⟩⟩
   |8,ho=>
    injection ho with ho;subst ho
    have e5:a.tmps[5]?.getD undef=.int .i64 (k:Int):=(RY.af a 5).trans ((hk 5 (by kernel_rfl)).trans rfl);exact Or.inl ⟨RY.au rfl,Or.inl ⟨.int .i64 (k:Int),X,by simp[execOp,go_sem,e5],zR,rfl⟩⟩
   |9,ho=>
    injection ho with ho;subst ho
    have e27:a.tmps[27]?.getD undef=.slice (some ⟨p2,o2,none⟩) n c2:=(RY.af a 27).trans (hd 7 _ 27 rfl rfl ⟨⟨7,.data⟩,by simp,rfl,rfl⟩);have e28:a.tmps[28]?.getD undef=.int .i64 (k:Int):=(RY.af a 28).trans (hd 8 _ 28 rfl rfl ⟨⟨8,.data⟩,by simp,rfl,rfl⟩);exact Or.inl ⟨RY.au rfl,Or.inl ⟨.pointer (some ⟨p2,o2+k*3,none⟩),X,by simp[execOp,go_sem,e27,e28,ec,dP],zR,rfl⟩⟩
   |10,ho=>
    injection ho with ho;subst ho
    have e29:a.tmps[29]?.getD undef=.pointer (some ⟨p2,o2+k*3,none⟩):=(RY.af a 29).trans (hd 9 _ 29 rfl rfl ⟨⟨9,.data⟩,by simp,rfl,rfl⟩);exact Or.inl ⟨RY.au rfl,Or.inl ⟨.pointer (some ⟨p2,o2+k*3,none⟩),X,by simp[execOp,go_sem,e29],zR,rfl⟩⟩
   |11,ho=>
    injection ho with ho;subst ho
    have e30:a.tmps[30]?.getD undef=.pointer (some ⟨p2,o2+k*3,none⟩):=(RY.af a 30).trans (hd 10 _ 30 rfl rfl ⟨⟨10,.data⟩,by simp,rfl,rfl⟩);have ypl_:=zL hU.out hX.size;have ycl_:X.cell? ⟨p2,o2+k*3,none⟩=some (.string x.kind):=by have q:=aE (aB oD.out hU.out hX) 0 _ rfl;simpa using q
    exact Or.inl ⟨RY.au rfl,Or.inl ⟨.string x.kind,X,by simp[execOp,go_sem,e30,ycl_],zR,rfl⟩⟩
   |12,ho=>
    injection ho with ho;subst ho
    have e25:a.tmps[25]?.getD undef=.string x.kind:=(RY.af a 25).trans (hd 5 _ 25 rfl rfl ⟨⟨5,.data⟩,by simp,rfl,rfl⟩);have e31:a.tmps[31]?.getD undef=.string x.kind:=(RY.af a 31).trans (hd 11 _ 31 rfl rfl ⟨⟨11,.data⟩,by simp,rfl,rfl⟩);exact Or.inl ⟨RY.au rfl,Or.inl ⟨.bool false,X,by simp[execOp,go_sem,e25,e31],zR,rfl⟩⟩
   |13,ho=>
    injection ho with ho;subst ho
    have e32:a.tmps[32]?.getD undef=.bool false:=(RY.af a 32).trans (hd 12 _ 32 rfl rfl ⟨⟨12,.data⟩,by simp,rfl,rfl⟩);exact Or.inl ⟨RY.au rfl,Or.inl ⟨.bool false,X,by simp[execOp,go_sem,e32],zR,rfl⟩⟩
   |14,ho=>
    injection ho with ho;subst ho
    have gd:=hd 13 _ 33 rfl rfl ⟨⟨13,.guard⟩,by simp,rfl,rfl⟩;have e2:a.tmps[2]?.getD undef=.pointer (some ⟨b0,0,none⟩):=(RY.af a 2).trans ((hk 2 (by kernel_rfl)).trans rfl);exact Or.inl ⟨(RY.aj rfl rfl rfl gd).trans rfl,Or.inl ⟨.pointer (some ⟨b0,0,none⟩),X,by simp[execOp,go_sem,e2],zR,rfl⟩⟩
   |15,ho=>
    injection ho with ho;subst ho
    have gd:=hd 13 _ 33 rfl rfl ⟨⟨13,.guard⟩,by simp,rfl,rfl⟩;have e34:a.tmps[34]?.getD undef=.pointer (some ⟨b0,0,none⟩):=(RY.af a 34).trans (hd 14 _ 34 rfl rfl ⟨⟨14,.data⟩,by simp,rfl,rfl⟩);have ycl_:=zb0.get 0 _ rfl;exact Or.inl ⟨(RY.aj rfl rfl rfl gd).trans rfl,Or.inl ⟨.slice (some ⟨p1,o1,none⟩) n c1,X,by simp[execOp,go_sem,e34,ycl_],zR,rfl⟩⟩
   |16,ho=>
    injection ho with ho;subst ho
    have gd:=hd 13 _ 33 rfl rfl ⟨⟨13,.guard⟩,by simp,rfl,rfl⟩;have e5:a.tmps[5]?.getD undef=.int .i64 (k:Int):=(RY.af a 5).trans ((hk 5 (by kernel_rfl)).trans rfl);exact Or.inl ⟨(RY.aj rfl rfl rfl gd).trans rfl,Or.inl ⟨.int .i64 (k:Int),X,by simp[execOp,go_sem,e5],zR,rfl⟩⟩
   |17,ho=>
    injection ho with ho;subst ho
    have gd:=hd 13 _ 33 rfl rfl ⟨⟨13,.guard⟩,by simp,rfl,rfl⟩;have e35:a.tmps[35]?.getD undef=.slice (some ⟨p1,o1,none⟩) n c1:=(RY.af a 35).trans (hd 15 _ 35 rfl rfl ⟨⟨15,.data⟩,by simp,rfl,rfl⟩);have e36:a.tmps[36]?.getD undef=.int .i64 (k:Int):=(RY.af a 36).trans (hd 16 _ 36 rfl rfl ⟨⟨16,.data⟩,by simp,rfl,rfl⟩);exact Or.inl ⟨(RY.aj rfl rfl rfl gd).trans rfl,Or.inl ⟨.pointer (some ⟨p1,o1+k*3,none⟩),X,by simp[execOp,go_sem,e35,e36,ec,dP],zR,rfl⟩⟩
   |18,ho=>
    injection ho with ho;subst ho
    have gd:=hd 13 _ 33 rfl rfl ⟨⟨13,.guard⟩,by simp,rfl,rfl⟩;have e37:a.tmps[37]?.getD undef=.pointer (some ⟨p1,o1+k*3,none⟩):=(RY.af a 37).trans (hd 17 _ 37 rfl rfl ⟨⟨17,.data⟩,by simp,rfl,rfl⟩);exact Or.inl ⟨(RY.aj rfl rfl rfl gd).trans rfl,Or.inl ⟨.pointer (some ⟨p1,o1+k*3+1,none⟩),X,by simp[execOp,go_sem,e37],zR,rfl⟩⟩
   |19,ho=>
    injection ho with ho;subst ho
    have gd:=hd 13 _ 33 rfl rfl ⟨⟨13,.guard⟩,by simp,rfl,rfl⟩;have e38:a.tmps[38]?.getD undef=.pointer (some ⟨p1,o1+k*3+1,none⟩):=(RY.af a 38).trans (hd 18 _ 38 rfl rfl ⟨⟨18,.data⟩,by simp,rfl,rfl⟩);have ypl_:=zL kY.out hX.size;have ycl_:X.cell? ⟨p1,o1+k*3+1,none⟩=some (.string x.name):=by have q:=aE (aB Fv.out kY.out hX) 1 _ rfl;simpa using q
    exact Or.inl ⟨(RY.aj rfl rfl rfl gd).trans rfl,Or.inl ⟨.string x.name,X,by simp[execOp,go_sem,e38,ycl_],zR,rfl⟩⟩
   |20,ho=>
    injection ho with ho;subst ho
    have gd:=hd 13 _ 33 rfl rfl ⟨⟨13,.guard⟩,by simp,rfl,rfl⟩;have e3:a.tmps[3]?.getD undef=.pointer (some ⟨b1,0,none⟩):=(RY.af a 3).trans ((hk 3 (by kernel_rfl)).trans rfl);exact Or.inl ⟨(RY.aj rfl rfl rfl gd).trans rfl,Or.inl ⟨.pointer (some ⟨b1,0,none⟩),X,by simp[execOp,go_sem,e3],zR,rfl⟩⟩
   |21,ho=>
    injection ho with ho;subst ho
    have gd:=hd 13 _ 33 rfl rfl ⟨⟨13,.guard⟩,by simp,rfl,rfl⟩;have e40:a.tmps[40]?.getD undef=.pointer (some ⟨b1,0,none⟩):=(RY.af a 40).trans (hd 20 _ 40 rfl rfl ⟨⟨20,.data⟩,by simp,rfl,rfl⟩);have ycl_:=zb1.get 0 _ rfl;exact Or.inl ⟨(RY.aj rfl rfl rfl gd).trans rfl,Or.inl ⟨.slice (some ⟨p2,o2,none⟩) n c2,X,by simp[execOp,go_sem,e40,ycl_],zR,rfl⟩⟩
   |22,ho=>
    injection ho with ho;subst ho
    have gd:=hd 13 _ 33 rfl rfl ⟨⟨13,.guard⟩,by simp,rfl,rfl⟩;have e5:a.tmps[5]?.getD undef=.int .i64 (k:Int):=(RY.af a 5).trans ((hk 5 (by kernel_rfl)).trans rfl);exact Or.inl ⟨(RY.aj rfl rfl rfl gd).trans rfl,Or.inl ⟨.int .i64 (k:Int),X,by simp[execOp,go_sem,e5],zR,rfl⟩⟩
   |23,ho=>
    injection ho with ho;subst ho
    have gd:=hd 13 _ 33 rfl rfl ⟨⟨13,.guard⟩,by simp,rfl,rfl⟩;have e41:a.tmps[41]?.getD undef=.slice (some ⟨p2,o2,none⟩) n c2:=(RY.af a 41).trans (hd 21 _ 41 rfl rfl ⟨⟨21,.data⟩,by simp,rfl,rfl⟩);have e42:a.tmps[42]?.getD undef=.int .i64 (k:Int):=(RY.af a 42).trans (hd 22 _ 42 rfl rfl ⟨⟨22,.data⟩,by simp,rfl,rfl⟩);exact Or.inl ⟨(RY.aj rfl rfl rfl gd).trans rfl,Or.inl ⟨.pointer (some ⟨p2,o2+k*3,none⟩),X,by simp[execOp,go_sem,e41,e42,ec,dP],zR,rfl⟩⟩
   |24,ho=>
    injection ho with ho;subst ho
    have gd:=hd 13 _ 33 rfl rfl ⟨⟨13,.guard⟩,by simp,rfl,rfl⟩;have e43:a.tmps[43]?.getD undef=.pointer (some ⟨p2,o2+k*3,none⟩):=(RY.af a 43).trans (hd 23 _ 43 rfl rfl ⟨⟨23,.data⟩,by simp,rfl,rfl⟩);exact Or.inl ⟨(RY.aj rfl rfl rfl gd).trans rfl,Or.inl ⟨.pointer (some ⟨p2,o2+k*3+1,none⟩),X,by simp[execOp,go_sem,e43],zR,rfl⟩⟩
   |25,ho=>
    injection ho with ho;subst ho
    have gd:=hd 13 _ 33 rfl rfl ⟨⟨13,.guard⟩,by simp,rfl,rfl⟩;have e44:a.tmps[44]?.getD undef=.pointer (some ⟨p2,o2+k*3+1,none⟩):=(RY.af a 44).trans (hd 24 _ 44 rfl rfl ⟨⟨24,.data⟩,by simp,rfl,rfl⟩);have ypl_:=zL hU.out hX.size;have ycl_:X.cell? ⟨p2,o2+k*3+1,none⟩=some (.string x.name):=by have q:=aE (aB oD.out hU.out hX) 1 _ rfl;simpa using q
    exact Or.inl ⟨(RY.aj rfl rfl rfl gd).trans rfl,Or.inl ⟨.string x.name,X,by simp[execOp,go_sem,e44,ycl_],zR,rfl⟩⟩
   |26,ho=>
    injection ho with ho;subst ho
    have gd:=hd 13 _ 33 rfl rfl ⟨⟨13,.guard⟩,by simp,rfl,rfl⟩;have e39:a.tmps[39]?.getD undef=.string x.name:=(RY.af a 39).trans (hd 19 _ 39 rfl rfl ⟨⟨19,.data⟩,by simp,rfl,rfl⟩);have e45:a.tmps[45]?.getD undef=.string x.name:=(RY.af a 45).trans (hd 25 _ 45 rfl rfl ⟨⟨25,.data⟩,by simp,rfl,rfl⟩);exact Or.inl ⟨(RY.aj rfl rfl rfl gd).trans rfl,Or.inl ⟨.bool false,X,by simp[execOp,go_sem,e39,e45],zR,rfl⟩⟩
   |27,ho=>
    injection ho with ho;subst ho
    have e33:a.tmps[33]?.getD undef=.bool false:=(RY.af a 33).trans (hd 13 _ 33 rfl rfl ⟨⟨13,.data⟩,by simp,rfl,rfl⟩);have e46:a.tmps[46]?.getD undef=.bool false:=(RY.af a 46).trans (hd 26 _ 46 rfl rfl ⟨⟨26,.data⟩,by simp,rfl,rfl⟩);exact Or.inl ⟨RY.au rfl,Or.inl ⟨.bool false,X,by simp[execOp,go_sem,e33,e46],zR,rfl⟩⟩
   |28,ho=>
    injection ho with ho;subst ho
    have e47:a.tmps[47]?.getD undef=.bool false:=(RY.af a 47).trans (hd 27 _ 47 rfl rfl ⟨⟨27,.data⟩,by simp,rfl,rfl⟩);exact Or.inl ⟨RY.au rfl,Or.inl ⟨.bool false,X,by simp[execOp,go_sem,e47],zR,rfl⟩⟩
   |29,ho=>
    injection ho with ho;subst ho
    have gd:=hd 28 _ 48 rfl rfl ⟨⟨28,.guard⟩,by simp,rfl,rfl⟩;have e2:a.tmps[2]?.getD undef=.pointer (some ⟨b0,0,none⟩):=(RY.af a 2).trans ((hk 2 (by kernel_rfl)).trans rfl);exact Or.inl ⟨(RY.aj rfl rfl rfl gd).trans rfl,Or.inl ⟨.pointer (some ⟨b0,0,none⟩),X,by simp[execOp,go_sem,e2],zR,rfl⟩⟩
   |30,ho=>
    injection ho with ho;subst ho
    have gd:=hd 28 _ 48 rfl rfl ⟨⟨28,.guard⟩,by simp,rfl,rfl⟩;have e49:a.tmps[49]?.getD undef=.pointer (some ⟨b0,0,none⟩):=(RY.af a 49).trans (hd 29 _ 49 rfl rfl ⟨⟨29,.data⟩,by simp,rfl,rfl⟩);have ycl_:=zb0.get 0 _ rfl;exact Or.inl ⟨(RY.aj rfl rfl rfl gd).trans rfl,Or.inl ⟨.slice (some ⟨p1,o1,none⟩) n c1,X,by simp[execOp,go_sem,e49,ycl_],zR,rfl⟩⟩
   |31,ho=>
    injection ho with ho;subst ho
    have gd:=hd 28 _ 48 rfl rfl ⟨⟨28,.guard⟩,by simp,rfl,rfl⟩;have e5:a.tmps[5]?.getD undef=.int .i64 (k:Int):=(RY.af a 5).trans ((hk 5 (by kernel_rfl)).trans rfl);exact Or.inl ⟨(RY.aj rfl rfl rfl gd).trans rfl,Or.inl ⟨.int .i64 (k:Int),X,by simp[execOp,go_sem,e5],zR,rfl⟩⟩
   |32,ho=>
    injection ho with ho;subst ho
    have gd:=hd 28 _ 48 rfl rfl ⟨⟨28,.guard⟩,by simp,rfl,rfl⟩;have e50:a.tmps[50]?.getD undef=.slice (some ⟨p1,o1,none⟩) n c1:=(RY.af a 50).trans (hd 30 _ 50 rfl rfl ⟨⟨30,.data⟩,by simp,rfl,rfl⟩);have e51:a.tmps[51]?.getD undef=.int .i64 (k:Int):=(RY.af a 51).trans (hd 31 _ 51 rfl rfl ⟨⟨31,.data⟩,by simp,rfl,rfl⟩);exact Or.inl ⟨(RY.aj rfl rfl rfl gd).trans rfl,Or.inl ⟨.pointer (some ⟨p1,o1+k*3,none⟩),X,by simp[execOp,go_sem,e50,e51,ec,dP],zR,rfl⟩⟩
   |33,ho=>
    injection ho with ho;subst ho
    have gd:=hd 28 _ 48 rfl rfl ⟨⟨28,.guard⟩,by simp,rfl,rfl⟩;have e52:a.tmps[52]?.getD undef=.pointer (some ⟨p1,o1+k*3,none⟩):=(RY.af a 52).trans (hd 32 _ 52 rfl rfl ⟨⟨32,.data⟩,by simp,rfl,rfl⟩);exact Or.inl ⟨(RY.aj rfl rfl rfl gd).trans rfl,Or.inl ⟨.pointer (some ⟨p1,o1+k*3+2,none⟩),X,by simp[execOp,go_sem,e52],zR,rfl⟩⟩
   |34,ho=>
    injection ho with ho;subst ho
    have gd:=hd 28 _ 48 rfl rfl ⟨⟨28,.guard⟩,by simp,rfl,rfl⟩;have e53:a.tmps[53]?.getD undef=.pointer (some ⟨p1,o1+k*3+2,none⟩):=(RY.af a 53).trans (hd 33 _ 53 rfl rfl ⟨⟨33,.data⟩,by simp,rfl,rfl⟩);have ypl_:=zL kY.out hX.size;have ycl_:X.cell? ⟨p1,o1+k*3+2,none⟩=some (.slice a1 x.lines.length d1):=by have q:=aE (aB Fv.out kY.out hX) 2 _ rfl;simpa using q
    exact Or.inl ⟨(RY.aj rfl rfl rfl gd).trans rfl,Or.inl ⟨.slice a1 x.lines.length d1,X,by simp[execOp,go_sem,e53,ycl_],zR,rfl⟩⟩
   |35,ho=>
    injection ho with ho;subst ho
    have gd:=hd 28 _ 48 rfl rfl ⟨⟨28,.guard⟩,by simp,rfl,rfl⟩;have e3:a.tmps[3]?.getD undef=.pointer (some ⟨b1,0,none⟩):=(RY.af a 3).trans ((hk 3 (by kernel_rfl)).trans rfl);exact Or.inl ⟨(RY.aj rfl rfl rfl gd).trans rfl,Or.inl ⟨.pointer (some ⟨b1,0,none⟩),X,by simp[execOp,go_sem,e3],zR,rfl⟩⟩
   |36,ho=>
    injection ho with ho;subst ho
    have gd:=hd 28 _ 48 rfl rfl ⟨⟨28,.guard⟩,by simp,rfl,rfl⟩;have e55:a.tmps[55]?.getD undef=.pointer (some ⟨b1,0,none⟩):=(RY.af a 55).trans (hd 35 _ 55 rfl rfl ⟨⟨35,.data⟩,by simp,rfl,rfl⟩);have ycl_:=zb1.get 0 _ rfl;exact Or.inl ⟨(RY.aj rfl rfl rfl gd).trans rfl,Or.inl ⟨.slice (some ⟨p2,o2,none⟩) n c2,X,by simp[execOp,go_sem,e55,ycl_],zR,rfl⟩⟩
   |37,ho=>
    injection ho with ho;subst ho
    have gd:=hd 28 _ 48 rfl rfl ⟨⟨28,.guard⟩,by simp,rfl,rfl⟩;have e5:a.tmps[5]?.getD undef=.int .i64 (k:Int):=(RY.af a 5).trans ((hk 5 (by kernel_rfl)).trans rfl);exact Or.inl ⟨(RY.aj rfl rfl rfl gd).trans rfl,Or.inl ⟨.int .i64 (k:Int),X,by simp[execOp,go_sem,e5],zR,rfl⟩⟩
   |38,ho=>
    injection ho with ho;subst ho
    have gd:=hd 28 _ 48 rfl rfl ⟨⟨28,.guard⟩,by simp,rfl,rfl⟩;have e56:a.tmps[56]?.getD undef=.slice (some ⟨p2,o2,none⟩) n c2:=(RY.af a 56).trans (hd 36 _ 56 rfl rfl ⟨⟨36,.data⟩,by simp,rfl,rfl⟩);have e57:a.tmps[57]?.getD undef=.int .i64 (k:Int):=(RY.af a 57).trans (hd 37 _ 57 rfl rfl ⟨⟨37,.data⟩,by simp,rfl,rfl⟩);exact Or.inl ⟨(RY.aj rfl rfl rfl gd).trans rfl,Or.inl ⟨.pointer (some ⟨p2,o2+k*3,none⟩),X,by simp[execOp,go_sem,e56,e57,ec,dP],zR,rfl⟩⟩
   |39,ho=>
    injection ho with ho;subst ho
    have gd:=hd 28 _ 48 rfl rfl ⟨⟨28,.guard⟩,by simp,rfl,rfl⟩;have e58:a.tmps[58]?.getD undef=.pointer (some ⟨p2,o2+k*3,none⟩):=(RY.af a 58).trans (hd 38 _ 58 rfl rfl ⟨⟨38,.data⟩,by simp,rfl,rfl⟩);exact Or.inl ⟨(RY.aj rfl rfl rfl gd).trans rfl,Or.inl ⟨.pointer (some ⟨p2,o2+k*3+2,none⟩),X,by simp[execOp,go_sem,e58],zR,rfl⟩⟩
   |40,ho=>
    injection ho with ho;subst ho
    have gd:=hd 28 _ 48 rfl rfl ⟨⟨28,.guard⟩,by simp,rfl,rfl⟩;have e59:a.tmps[59]?.getD undef=.pointer (some ⟨p2,o2+k*3+2,none⟩):=(RY.af a 59).trans (hd 39 _ 59 rfl rfl ⟨⟨39,.data⟩,by simp,rfl,rfl⟩);have ypl_:=zL hU.out hX.size;have ycl_:X.cell? ⟨p2,o2+k*3+2,none⟩=some (.slice a2 x.lines.length d2):=by have q:=aE (aB oD.out hU.out hX) 2 _ rfl;simpa using q
    exact Or.inl ⟨(RY.aj rfl rfl rfl gd).trans rfl,Or.inl ⟨.slice a2 x.lines.length d2,X,by simp[execOp,go_sem,e59,ycl_],zR,rfl⟩⟩
   |41,ho=>
    injection ho with ho;subst ho
    have gd:=hd 28 _ 48 rfl rfl ⟨⟨28,.guard⟩,by simp,rfl,rfl⟩;have e54:a.tmps[54]?.getD undef=.slice a1 x.lines.length d1:=(RY.af a 54).trans (hd 34 _ 54 rfl rfl ⟨⟨34,.data⟩,by simp,rfl,rfl⟩);have e60:a.tmps[60]?.getD undef=.slice a2 x.lines.length d2:=(RY.af a 60).trans (hd 40 _ 60 rfl rfl ⟨⟨40,.data⟩,by simp,rfl,rfl⟩);refine Or.inl ⟨(RY.aj rfl rfl rfl gd).trans rfl,Or.inr ⟨33,#[.slice a1 x.lines.length d1,.slice a2 x.lines.length d2],by simp[go_sem,e54,e60],(ow.out X hX).mono ?_⟩⟩;rintro e W' ⟨rfl,hb⟩;exact⟨_,rfl,hb,rfl⟩
   |42,ho=>
    injection ho with ho;subst ho
    have gd:=hd 28 _ 48 rfl rfl ⟨⟨28,.guard⟩,by simp,rfl,rfl⟩;have e61:a.tmps[61]?.getD undef=.bool true:=(RY.af a 61).trans (hd 41 _ 61 rfl rfl ⟨⟨41,.data⟩,by simp,rfl,rfl⟩);exact Or.inl ⟨(RY.aj rfl rfl rfl gd).trans rfl,Or.inl ⟨.bool false,X,by simp[execOp,go_sem,e61],zR,rfl⟩⟩
   |43,ho=>
    injection ho with ho;subst ho
    have e48:a.tmps[48]?.getD undef=.bool false:=(RY.af a 48).trans (hd 28 _ 48 rfl rfl ⟨⟨28,.data⟩,by simp,rfl,rfl⟩);have e62:a.tmps[62]?.getD undef=.bool false:=(RY.af a 62).trans (hd 42 _ 62 rfl rfl ⟨⟨42,.data⟩,by simp,rfl,rfl⟩);exact Or.inl ⟨RY.au rfl,Or.inl ⟨.bool false,X,by simp[execOp,go_sem,e48,e62],zR,rfl⟩⟩
   |n+44,ho=>simp at ho
  intro X vs hX bg;have q63:vs 63=_:=bg 43 _ 63 rfl rfl;simp only[RY.aC,Act.put,List.setIfInBounds_toArray,List.set_cons_zero,List.set_cons_succ];rw[q63];generalize vs 20=s20;generalize vs 21=s21;generalize vs 22=s22;generalize vs 23=s23;generalize vs 24=s24;generalize vs 25=s25;generalize vs 26=s26;generalize vs 27=s27;generalize vs 28=s28;generalize vs 29=s29;generalize vs 30=s30;generalize vs 31=sr;generalize vs 32=qw;generalize vs 33=qM;generalize vs 34=qX;generalize vs 35=lN;generalize vs 36=lI;generalize vs 37=lR;generalize vs 38=nu;generalize vs 39=nS;generalize vs 40=s40;generalize vs 41=s41;generalize vs 42=s42;generalize vs 43=s43;generalize vs 44=s44;generalize vs 45=s45;generalize vs 46=s46;generalize vs 47=s47;generalize vs 48=s48;generalize vs 49=s49;generalize vs 50=yp;generalize vs 51=s51;generalize vs 52=s52;generalize vs 53=s53;generalize vs 54=s54;generalize vs 55=s55;generalize vs 56=s56;generalize vs 57=s57;generalize vs 58=s58;generalize vs 59=s59;generalize vs 60=s60;generalize vs 61=s61;generalize vs 62=s62;clear bg q63;replace HB:=uh (ah HB.out hX)
  replace cL:=uh (cL.out.later hX)
  replace gE:=uh (gE.out.later hX)
  clear hX Fv oD kY hU ow;go_wp2;go_roundw
  case rel=>exact⟨k+1,by omega,by go_num,HB.out,cL.out,gE.out⟩
  case measure=>simp[intOf];omega
theorem yR {W:World} {p o m:Nat} {u:TypeId} {x y z:List Value} (ho:aV W p u m) (h:W.rangeAt p o (x++(y++z))) (y':List Value) (hl:y'.length=y.length) (hm:o+(x++(y++z)).length≤m):(W.setCells p (o+x.length) y').rangeAt p o (x++(y'++z)):=by
 obtain⟨h1,h2⟩:=dA h;obtain⟨_,h3⟩:=dA h2;simp only[List.length_append]at hm;refine kJ ?_ (kJ ?_ ?_)
 ·exact World.rangeAt_setCells_apart h1 _ _ _ (Or.inr (Or.inl (by omega)))
 ·exact World.rangeAt_setCells_same _ _ _ _ (aR ho _ _ (by omega))
 ·rw[hl];exact World.rangeAt_setCells_apart h3 _ _ _ (Or.inr (Or.inr (by omega)))
def dQ (W:World) (p o lo:Nat) (l:List Pl.Bl):Prop:=∃ u m vs G,aV W p u m∧o+l.length*3≤m∧W.rangeAt p o vs∧Rep W false (bf l.length ak) G (l.flatMap blD) vs∧(∀ b∈G,lo≤b∧b≠p)∧lo≤p
theorem dQ.bo {W W':World} {T:Nat→Prop} {p o lo:Nat} {l:List Pl.Bl} (h:dQ W p o lo l) (hb:Marks T W W') (hT:∀ b,T b→b<lo):dQ W' p o lo l:=by
 obtain⟨u,m,vs,G,h1,h2,h3,h4,h5,h6⟩:=h;have hp:¬ T p:=fun e=>by have:=hT p e;omega
 exact⟨u,m,vs,G,hb.own _ _ _ h1,h2,cO h3 fun j _=>hb.cell h1.lt hp _,h4.bo hb fun b gb e=>by have:=hT b e;have:=(h5 b gb).1;omega,h5,h6⟩
theorem dQ.raw {W:World} {p o lo:Nat} {l:List Pl.Bl} (h:dQ W p o lo l) {c:Nat} (hc:l.length≤maxLen∧l.length≤c):Raw W bu [bD l] [.slice (some ⟨p,o,none⟩) l.length c]:=by
 obtain⟨u,m,vs,G,h1,h2,h3,h4,h5,h6⟩:=h;exact .row _ _ p o l.length c vs (l.flatMap blD) h1.lt ⟨hc.1,hc.2⟩ h3 h4.raw .nil
theorem dQ.put {W:World} {p o lo N:Nat} {l:List Pl.Bl} (h:dQ W p o lo l) {k:Nat} (hk:k<l.length) (x:Pl.Bl) {lv:Value} (hD:Dat (fun b=>lo≤b∧b≠p) N N W bF [bT x.lines] [lv]) (hN:p<N):dQ (W.setCells p (o+k*3) [.string x.kind,.string x.name,lv]) p o lo (l.set k x):=by
 obtain⟨u,m,vs,G,h1,h2,h3,h4,h5,h6⟩:=h;obtain⟨FD,rD,fD⟩:=hD;have Oi:∀ b∈FD,lo≤b∧b≠p:=fun b hb=>by
  rcases fD b hb with q|q
  ·exact q.1
  ·exact⟨by omega,by omega⟩
 have hm:Marks (fun b=>b=p) W (W.setCells p (o+k*3) [.string x.kind,.string x.name,lv]):=aM (S:=fun b=>b=p) rfl _ _ _;have fQ:vs.length=l.length*3:=by rw[h4.len,bj];rfl
 have hrc:=h4;rw[iy hk]at h4;obtain⟨F1,F2,d1,d2,c1,c2,hF,hd,bg,r1,r2⟩:=Rep.cut _ h4;obtain⟨F3,F4,d3,d4,c3,c4,fk,NR,lQ,r3,r4⟩:=Rep.cut _ r2;subst hF;subst bg;subst fk;subst lQ;subst NR;have mJ:c1.length=k*3:=by rw[r1.len,bj];rfl
 have PM:c3.length=3:=by rw[r3.len];rfl
 have Hw:d1.length=k*3:=by rw[r1.raw.typ.len,bj];rfl
 have Od:d3.length=3:=by rw[r3.raw.typ.len];rfl
 have MM:l=l.take k++(l.getD k Pl.aN::l.drop (k+1)):=by
  have e:l.getD k Pl.aN=l[k]:=by simp[hk]
  rw[e,← List.drop_eq_getElem_cons hk,List.take_append_drop]
 have ht:((l.take k).flatMap blD).length=k*3:=by rw[fW blD 3 lE,List.length_take,Nat.min_eq_left (by omega)]
 have hs:l.flatMap blD=(l.take k).flatMap blD++(blD (l.getD k Pl.aN)++(l.drop (k+1)).flatMap blD):=by
  conv=>lhs;rw[MM]
  rw[List.flatMap_append,List.flatMap_cons]
 obtain⟨g1,g2⟩:=List.append_inj (hd.symm.trans hs) (by rw[Hw,ht]);obtain⟨g3,g4⟩:=List.append_inj g2 (by rw[Od];rfl);subst g1;subst g4;have Rz:(l.set k x).flatMap blD=(l.take k).flatMap blD++(blD x++(l.drop (k+1)).flatMap blD):=by
  rw[List.set_eq_take_append_cons_drop,if_pos hk,List.flatMap_append,List.flatMap_cons]
 refine⟨u,m,c1++([.string x.kind,.string x.name,lv]++c4),F1++((FD++[])++F4),dB _ _ _ h1,by rw[List.length_set];exact h2, ?_, ?_,fun b hb=> ?_,h6⟩
 ·have:=yR h1 h3 [.string x.kind,.string x.name,lv] (by rw[PM];rfl) (by rw[fQ];exact h2);rw[mJ]at this;exact this
 ·rw[List.length_set,Rz,iy hk];have hx:Rep W false ak (FD++[]) (blD x) [.string x.kind,.string x.name,lv]:=bG x.kind x.name rD;exact(r1.app (hx.app r4)).bo hm fun b hb e=>by
   simp only[List.mem_append,List.not_mem_nil,or_false]at hb;rcases hb with hb|hb|hb
   ·exact(h5 b (by simp[hb])).2 e
   ·exact(Oi b hb).2 e
   ·exact(h5 b (by simp[hb])).2 e
 ·simp only[List.mem_append,List.not_mem_nil,or_false]at hb;rcases hb with hb|hb|hb
  ·exact h5 b (by simp[hb])
  ·exact Oi b hb
  ·exact h5 b (by simp[hb])
theorem ti {W:World} {F:List Nat} {l:List Pl.Bl} {v:Value} {lo:Nat} (h:Rep W false bu F [bD l] [v]) (nd:F.Nodup) (bR:∀ b∈F,lo≤b) (hl:0<l.length):∃ p o c,v=.slice (some ⟨p,o,none⟩) l.length c∧l.length≤c∧dQ W p o lo l:=by
 rcases h.slice with⟨_,h0,_⟩|⟨p,o,c,u,m,G,hv,hF,hn,ho,hm,_,vs,hr,hR⟩
 ·omega
 subst hF;rw[List.nodup_cons]at nd;exact⟨p,o,c,hv,hn.2.1,u,m,vs,G,ho,hm,hr,hR,fun b hb=>⟨bR b (by simp[hb]),fun e=>nd.1 (e ▸ hb)⟩,bR p (by simp)⟩
namespace Pl
end Pl
theorem pF {α:Type} (R:α→α→Prop) (tr:∀ a b c,R a b→R b c→R a c) (l:List α) (d:α) (h:∀ i,0<i→i<l.length→R (l.getD (i - 1) d) (l.getD i d)):l.Pairwise R:=by
 rw[List.pairwise_iff_getElem];have key:∀ (m i:Nat) (hi:i+m+1<l.length),R (l[i]'(by omega)) (l[i+m+1]'hi):=by
  intro m;induction m with
  |zero=>
   intro i hi;have:=h (i+1) (by omega) (by omega);have e1:l.getD i d=l[i]'(by omega):=by simp[show i<l.length by omega]
   have e2:l.getD (i+1) d=l[i+1]'(by omega):=by simp[show i+1<l.length by omega]
   rw[Nat.add_sub_cancel,e1,e2]at this;exact this
  |succ m ih=>
   intro i hi;have h1:=ih i (by omega);have h2:=h (i+m+2) (by omega) (by omega);have e1:l.getD (i+m+2 - 1) d=l[i+m+1]'(by omega):=by simp[show i+m+1<l.length by omega]
   have e2:l.getD (i+m+2) d=l[i+m+2]'(by omega):=by simp[show i+m+2<l.length by omega]
   rw[e1,e2]at h2;exact tr _ _ _ h1 h2
 intro i j hi hj LU;obtain⟨m,rfl⟩:∃ m,j=i+m+1:=⟨j - i - 1,by omega⟩
 exact key m i hj
theorem uF {s:List Pl.Bl} (h:Pl.bH s=true) {i:Nat} (hi:i<s.length):Pl.dk s i=true:=by
 unfold Pl.bH at h;rw[Bool.and_eq_true,List.all_eq_true]at h;exact h.2 i (List.mem_range.2 hi)
theorem vU {s:List Pl.Bl} (h:Pl.bH s=true):s.length≤60:=by
 unfold Pl.bH at h;rw[Bool.and_eq_true,decide_eq_true_iff]at h;exact h.1
theorem wZ {s:List Pl.Bl} (h:Pl.bH s=true):s.Pairwise fun a b=>Pl.ahead a b=true:=by
 refine pF _ rT.tr s Pl.aN fun i h0 hi=> ?_;have:=uF h hi;unfold Pl.dk at this;rw[Bool.and_eq_true,Bool.or_eq_true]at this;rcases this.2 with q|q
 ·rw[decide_eq_true_iff]at q;omega
 ·exact q
theorem oX {kind:ByteArray} {l:List Pl.Ln} (h:Pl.bU kind l=true) {i:Nat} (hi:i<l.length):Pl.dj kind l i=true:=by
 unfold Pl.bU at h;rw[List.all_eq_true]at h;exact h i (List.mem_range.2 hi)
theorem xh {kind:ByteArray} {l:List Pl.Ln} (h:Pl.bU kind l=true):l.Pairwise fun a b=>Pl.aL kind a b=true:=by
 refine pF _ (rZ kind).tr l Pl.aK fun i h0 hi=> ?_;have:=oX h hi;unfold Pl.dj at this;rw[Bool.and_eq_true,Bool.and_eq_true,Bool.or_eq_true]at this;rcases this.1.2 with q|q
 ·rw[decide_eq_true_iff]at q;omega
 ·exact q
theorem rG {kind:ByteArray} {l:List Pl.Ln} (h:Pl.bU kind l=true):∀ x∈l,Pl.bh kind x.key x.ws=true:=fun x hx=>by
 obtain⟨i,hi,rfl⟩:=List.getElem_of_mem hx;have:=oX h hi;have e:l.getD i Pl.aK=l[i]:=by simp[hi]
 unfold Pl.dj at this;rw[e,Bool.and_eq_true,Bool.and_eq_true]at this;exact this.1.1
theorem Bd (b:Pl.Bl) (kind name:ByteArray):dm b ⟨kind,name,[]⟩=0↔Pl.isB kind name b=true:=by
 unfold dm fC Pl.isB;rw[Bool.and_eq_true];show _↔Pl.dD b.kind kind=true∧Pl.dD b.name name=true;rw[← bp,← bp];split
 ·rename_i h;simp[h]
 ·rename_i h
  constructor
  ·exact fun q=>absurd q h
  ·exact fun q=>absurd q.1 h
theorem uI {kind name:ByteArray}:∀ (l:List Pl.Bl) (j:Nat),(∀ b∈l,Pl.isB kind name b=false)→Pl.findF kind name l j=none
 |[],_,_=>by rw[Pl.findF]
 |b::l,j,h=>by
  rw[Pl.findF,h b (by simp),uI l (j+1) (fun b hb=>h b (by simp[hb]))];rfl
theorem dQ.there {W:World} {p o lo:Nat} {l:List Pl.Bl} (h:dQ W p o lo l) {k:Nat} (hk:k<l.length):W.there p (o+k*3) 3:=by
 obtain⟨u,m,vs,G,h1,h2,_⟩:=h;exact aR h1 _ _ (by omega)
namespace Pl
def jD (kind:ByteArray) (acc:List Ln) (r:Ru):List Ln:=if !r.many&&decide ((Hd acc r.key).length=0) then ck kind acc ⟨r.key,r.dflt⟩ else acc
def pq (kind:ByteArray) (l:List Ln) (rs:List Ru):List Ln:=rs.foldl (jD kind) l
def Er (b:Bl):Bl:=⟨b.kind,b.name,pq b.kind b.lines (ai b.kind)⟩
def od (s:List Bl):List Bl:=if bH s then s.map Er else []
end Pl
theorem fX (kind:ByteArray):(Pl.ai kind).length≤12:=by
 unfold Pl.ai;split
 ·decide
 ·split
  ·decide
  ·split<;>decide
namespace Pl
def xW (kind:ByteArray) (x:Ln):Bool:=match bC (ai kind) x.key with
 |none=>true
 |some j=>((ai kind).getD j bq).many|| !cH ((ai kind).getD j bq).dflt x.ws
def Ep (b:Bl):Bl:=⟨b.kind,b.name,b.lines.filter (xW b.kind)⟩
def om (s:List Bl):List Bl:=if bH s then s.map Ep else []
theorem zV {kind key:ByteArray} {ws:List ByteArray} (h:bh kind key ws=true):∃ j,bC (ai kind) key=some j:=by
 unfold bh at h;cases hj:bC (ai kind) key with
 |none=>rw[hj]at h;simp at h
 |some j=>exact⟨j,rfl⟩
end Pl
theorem iD {key:ByteArray}:∀ (l:List Pl.Ru) (i j:Nat),Pl.dU key l i=some j→i≤j∧(l.getD (j - i) Pl.bq).key=key
 |[],_,_,h=>by unfold Pl.dU at h;cases h
 |r::l,i,j,h=>by
  unfold Pl.dU at h;split at h
  ·rename_i hk
   injection h with h;subst h
   refine⟨zE, ?_⟩;rw[Nat.sub_self];exact iN (by simpa using hk)
  ·have:=iD l (i+1) j h;refine⟨by omega, ?_⟩;have e:j - i=(j - (i+1))+1:=by omega
   rw[e,List.getD_cons_succ];exact this.2
theorem Dl {l:List Pl.Ru} {key:ByteArray} {j:Nat} (h:Pl.bC l key=some j):(l.getD j Pl.bq).key=key:=by
 have:=(iD l 0 j h).2;rwa [Nat.sub_zero]at this
theorem Kr (kind:ByteArray) (a:Pl.Ln):Pl.aL kind a a=false:=by
 cases h:Pl.aL kind a a
 ·rfl
 ·have h1:=((rZ kind).neg a a).2 h;have:dp (Pl.ai kind) a a=0:=by
   show fC (dz _ _) (cG _ _)=0;unfold fC;rw[if_pos ((cJ _ _).2 rfl)];exact(fu _ _).2 rfl
  omega
theorem uu (a b:List ByteArray):Pl.cH a b=true↔a=b:=by
 unfold Pl.cH;rw[Bool.and_eq_true,Bool.not_eq_true',Bool.not_eq_true'];constructor
 ·rintro⟨h1,h2⟩;by_cases e:cG a b=0
  ·exact(fu a b).1 e
  ·have h3:=l5 a b (fun q=>by rw[(dY a b).1 q]at h1;cases h1) e;rw[(dY b a).1 h3]at h2;cases h2
 ·intro e;subst e;have:¬ Pl.cM a a=true:=fun q=>by have:=(dY a a).2 q;have:=(fu a a).2 rfl;omega
  rw[Bool.not_eq_true]at this;exact⟨this,this⟩
theorem ug (l:List Pl.Ln) (key:ByteArray):∀ k,k≤l.length→Pl.aI (l.take k) key=0∨∃ i,i<k∧(l.getD i Pl.aK).key=key∧Pl.aI (l.take (i+1)) key=Pl.aI (l.take k) key
 |0,_=>Or.inl (by simp[Pl.aI])
 |k+1,h=>by
  have hk:k<l.length:=by omega
  by_cases e:(l.getD k Pl.aK).key=key
  ·exact Or.inr ⟨k,by omega,e,rfl⟩
  ·have hs:Pl.aI (l.take (k+1)) key=Pl.aI (l.take k) key:=by
    unfold Pl.aI;have e2:l.getD k Pl.aK=l[k]:=by simp[hk]
    rw[List.take_succ_eq_append_getElem hk,List.countP_append,List.countP_singleton,← e2];have:Pl.dD (l.getD k Pl.aK).key key=false:=by
     rw[Bool.eq_false_iff];exact fun q=>e (jA q)
    rw[this];simp
   rcases ug l key k (by omega) with q|⟨i,hi,q1,q2⟩
   ·exact Or.inl (by rw[hs];exact q)
   ·exact Or.inr ⟨i,by omega,q1,by rw[hs];exact q2⟩
theorem z4 {kind:ByteArray} {l:List Pl.Ln} (h:Pl.bU kind l=true) (key:ByteArray):Pl.aI l key=0∨Pl.gy (Pl.fp kind key) (Pl.aI l key)=true:=by
 rcases ug l key l.length zE with q|⟨i,hi,q1,q2⟩
 ·left;rwa [List.take_length]at q
 ·right;rw[List.take_length]at q2;have:=oX h hi;unfold Pl.dj at this;rw[Bool.and_eq_true]at this;rw[q1,q2]at this;exact this.2
def tl (s:List Pl.Bl):Nat:=(s.map fun b=>b.lines.length).sum
structure SdB (n t:Nat) (s:List Pl.Bl):Prop where
 len:s.length≤n
 tot:tl s≤t
 all:∀ b∈s,b.kind.size≤20∧b.name.size≤20∧∀ x∈b.lines,LnB x
 per:∀ b∈s,b.lines.length≤7
theorem SdB.mono {n t n' t':Nat} {s:List Pl.Bl} (h:SdB n t s) (hn:n≤n') (ht:t≤t'):SdB n' t' s:=⟨Nat.le_trans h.len hn,Nat.le_trans h.tot ht,h.all,h.per⟩
theorem KS (s:List Pl.Bl) (x:Pl.Bl):tl (Pl.dO s x)=tl s+x.lines.length:=by
 have e:=List.takeWhile_append_dropWhile (p:=fun y=>Pl.ahead y x) (l:=s);have h:tl s=tl (s.takeWhile fun y=>Pl.ahead y x)+tl (s.dropWhile fun y=>Pl.ahead y x):=by
  simp only[tl];rw[← List.sum_append,← List.map_append,e]
 rw[h];simp only[Pl.dO,Pl.putAt,tl,List.map_append,List.map_cons,List.sum_append,List.sum_cons];omega
theorem SdB.put {n t:Nat} {s:List Pl.Bl} (h:SdB n t s) (x:Pl.Bl) (k:Nat) (hl:x.lines.length≤k) (h7:x.lines.length≤7) (hx:x.kind.size≤20∧x.name.size≤20∧∀ y∈x.lines,LnB y):SdB (n+1) (t+k) (Pl.dO s x):=by
 refine⟨by rw[Pl.jY];have:=h.len;omega,by rw[KS];have:=h.tot;omega,fun b hb=> ?_,fun b hb=> ?_⟩
 ·rcases(Pl.r5 _ _ _).1 hb with rfl|q
  ·exact hx
  ·exact h.all b q
 ·rcases(Pl.r5 _ _ _).1 hb with rfl|q
  ·exact h7
  ·exact h.per b q
structure DS (W0 X:World) (R B0 Q L:Nat) (s:List Pl.Bl) (sv:Value):Prop where
 fr:Fr R W0 X
 res:al X B0 25 [.slice none 0 0]
 box:al X Q 25 [sv]
 dat:Dat (fun _=>False) 0 L X bu [bD s] [sv]
 ord:R<W0.heap.size∧W0.heap.size≤B0∧B0<Q∧Q<L∧L≤X.heap.size
theorem DS.step {W0 X X':World} {R B0 Q L:Nat} {s:List Pl.Bl} {bv:Value} {v v':Value} {n n' p p':Nat} (h:DS W0 X R B0 Q L s bv) (hF:Fr R X X') (h1:Rd X R v n p) (h2:Rd X' R v' n' p'):DS W0 X' R B0 Q L s bv:=by
 have ho:=h.ord;exact⟨h.fr.trans hF,h.res.fr hF (by omega),h.box.fr hF (by omega),h.dat.fr hF h1 h2 (by omega) (by omega),by have:=hF.bel.size;omega⟩
theorem DS.later {W0 X X':World} {R B0 Q L:Nat} {s:List Pl.Bl} {bv:Value} (h:DS W0 X R B0 Q L s bv) (hb:Bel X X'):DS W0 X' R B0 Q L s bv:=by
 have ho:=h.ord;exact⟨h.fr.trans (Fr.aG hb (by omega)),h.res.later hb,h.box.later hb,h.dat.later hb,by have:=hb.size;omega⟩
theorem DS.put {W0 X:World} {R B0 Q L:Nat} {s s':List Pl.Bl} {bv v':Value} (h:DS W0 X R B0 Q L s bv) (hd:Dat (fun _=>False) 0 L X bu [bD s'] [v']):DS W0 (X.setCells Q 0 [v']) R B0 Q L s' v':=by
 have ho:=h.ord;have m:Marks (fun b=>b=Q) X (X.setCells Q 0 [v']):=aM (S:=fun b=>b=Q) rfl _ _ _;have t:X.there Q 0 [v'].length:=aR h.box.own _ _ (by simp);exact⟨h.fr.mks m (fun b e=>by have:b=Q:=e;omega) ho.1,h.res.mks m (by omega),⟨dB _ _ _ h.box.own,World.rangeAt_setCells_same _ _ _ _ t⟩,hd.bo m (fun b e=>by have:b=Q:=e;omega),by have:=m.size;omega⟩
def jb (lo:Nat) (W:World) (sh:List Sh) (A:List Dt) (c:List Value):Prop:=∃ F,Rep W false sh F A c∧F.Nodup∧∀ b∈F,lo≤b
theorem jb.bo {lo:Nat} {T:Nat→Prop} {W W':World} {sh:List Sh} {A:List Dt} {c:List Value} (h:jb lo W sh A c) (hb:Marks T W W') (hT:∀ b,T b→b<lo):jb lo W' sh A c:=by
 obtain⟨F,r,n,f⟩:=h;exact⟨F,r.bo hb fun b gb e=>by have:=hT b e;have:=f b gb;omega,n,f⟩
theorem jb.later {lo:Nat} {W W':World} {sh:List Sh} {A:List Dt} {c:List Value} (h:jb lo W sh A c) (hb:Bel W W'):jb lo W' sh A c:=by
 obtain⟨F,r,n,f⟩:=h;exact⟨F,r.later hb,n,f⟩
theorem jb.lower {lo lo':Nat} {W:World} {sh:List Sh} {A:List Dt} {c:List Value} (h:jb lo W sh A c) (hl:lo'≤lo):jb lo' W sh A c:=by
 obtain⟨F,r,n,f⟩:=h;exact⟨F,r,n,fun b hb=>Nat.le_trans hl (f b hb)⟩
theorem jb.raw {lo:Nat} {W:World} {sh:List Sh} {A:List Dt} {c:List Value} (h:jb lo W sh A c):Raw W sh A c:=by
 obtain⟨F,r,_⟩:=h;exact r.raw
def BS (p k q:Nat):Prop:=q+4000000*k≤p+30000000
theorem C3 {p k q:Nat} (h:BS p k q):q≤p+30000000:=by unfold BS at h;omega
theorem yN {p k q q':Nat} (h:BS p (k+1) q) (h':q'≤q+3000000):BS p k q':=by unfold BS at h ⊢;omega
theorem nc (f:Pl.Bl→Nat):∀ (s:List Pl.Bl) (b:Pl.Bl),b∈s→f b≤(s.map f).sum
 |x::s,b,h=>by
  rw[List.map_cons,List.sum_cons];rcases List.mem_cons.1 h with rfl|q
  ·omega
  ·have:=nc f s b q;omega
theorem sQ {s:List Pl.Bl} {b:Pl.Bl} (h:b∈s):b.lines.length≤tl s:=nc (fun b=>b.lines.length) s b h
def CQ (L:Nat) (i:Nat) (sa:Option Addr) (sc:Nat) (s:List Pl.Bl) (ls:List Pl.Bl) (dl:ByteArray) (kb:ByteArray) (nb:ByteArray):Nat→Value→World→Prop
 |0,vv,_=>vv=.agg #[.slice sa s.length sc]
 |1,vv,_=>vv=.int .i64 (i:Int)
 |2,vv,_=>vv=.string dl
 |3,vv,_=>vv=.string nb
 |4,vv,_=>vv=.agg #[.string kb,.string nb,.slice none 0 0]
 |5,vv,W=>∃ a m,vv=.agg #[.slice a ls.length m]∧Dat (fun _=>False) 0 L W bu [bD ls] [.slice a ls.length m]
 |_,_,_=>True
theorem xU (L:Nat) (i:Nat) (sa:Option Addr) (sc:Nat) (s:List Pl.Bl) (ls:List Pl.Bl) (dl:ByteArray) (kb:ByteArray) (nb:ByteArray):∀ jj vv W W',Bel W W'→CQ L i sa sc s ls dl kb nb jj vv W→CQ L i sa sc s ls dl kb nb jj vv W':=by
 intro jj vv W W' hb h;match jj with
 |0=>exact h
 |1=>exact h
 |2=>exact h
 |3=>exact h
 |4=>exact h
 |5=>
  obtain⟨a,m,e,h1⟩:=h;exact⟨a,m,e,h1.later hb⟩
 |n+6=>exact trivial
theorem Au (R:Nat) (v:Value) (len p:Nat) (W0:World) (h:Rd W0 R v len p) (hp:p≤300000000000):
  Calls Tryz.prog 35 #[.pointer (some ⟨R,0,none⟩)] W0 fun e W'=>(∃ s sv,e=.returned (.agg #[sv])∧jb W0.heap.size W' bu [bD s] [sv]∧SdB 66 40 s)∧Fr R W0 W'∧∃ q,q≤p+40000000∧Rd W' R v len q:=by
 have r8:=uh h;clear h;obtain⟨wa,aZ⟩:∃ wa,wa=(W0.alloc (.cells #[.slice none 0 0] 25)).alloc (.cells #[.slice none 0 0] 25):=⟨_,rfl⟩
 have g8:Bel W0 wa:=by rw[aZ];exact ae (ae zR _) _
 obtain⟨Q,hQ⟩:∃ Q,Q=W0.heap.size+1:=⟨_,rfl⟩
 obtain⟨L,hL⟩:∃ L,L=W0.heap.size+2:=⟨_,rfl⟩
 have HR:=uh (r8.out.later g8);have JA:Hid (DS W0 wa R W0.heap.size Q L [] (.slice none 0 0)):=by
  show DS _ _ _ _ _ _ _ _;have hz:wa.heap.size=W0.heap.size+2:=by rw[aZ];simp
  refine⟨Fr.aG g8 r8.out.own.lt, ?_, ?_,k9,by have:=r8.out.own.lt;omega⟩
  ·rw[aZ];exact(al.new W0 [.slice none 0 0] 25 _ rfl).later (ae zR _)
  ·rw[aZ,hQ];exact al.new (W0.alloc (.cells #[.slice none 0 0] 25)) [.slice none 0 0] 25 _ (by simp)
 clear g8 r8 hL;have HP:=uh (bb R v len p 6 wa HR.out (by omega) (by omega));go_enter Tryz.func35,Tryz.ntmps35
 go_upto_region 2 with fail
 rw[← aZ,← hQ];clear aZ hQ;go_wp2_with fail
 refine HP.out.mono ?_;rintro e W2 ⟨⟨rm,rfl,iJ⟩,fk,eR⟩;obtain⟨n,rfl,hn⟩:=iJ.nat;have hn6:n<6:=by have:=hn (by omega);omega
 have FO:=uh (JA.out.step fk HR.out eR);have gW:=uh eR;have EU:Hid (BS p n (p+1)):=by show BS _ _ _;unfold BS;omega
 clear iJ hn fk eR HP JA HR;go_wp2;go_loopw [4] (fun vi wr=>∃ (k q:Nat) (s:List Pl.Bl) (sv:Value),k≤5∧vi=.int .i64 k∧DS W0 wr R W0.heap.size Q L s sv∧s.length+k≤5∧SdB 5 (7*s.length) s∧BS p k q∧Rd wr R v len q) (fun vi _=>(intOf vi).toNat)
 case atStart=>exact⟨n,p+1,[],_,by omega,rfl,FO.out,by simp;omega,⟨by simp,by simp[tl],by simp,by simp⟩,EU.out,gW.out⟩
 case round=>
  obtain⟨k,q,s,sv,hk7,rfl,hD,FK,hB,hq,hR⟩:=hrel;obtain⟨sa,sc,HU⟩:=hD.dat.raw.bm;subst HU;have HD:=uh hD;have qx:=uh FK;have qY:=uh hB;have HQ:=uh hq;have gf:=uh hR;clear hD FK hB hq hR FO gW EU;by_cases k0:k=0
  ·subst k0;have Mc:Hid (SdB 5 35 s):=qY.out.mono (by omega) (by have:=qY.out.len;omega);clear qY;have HP:=uh (bb R v len q 24 wr gf.out (by have:=C3 HQ.out;omega) (by omega));go_wp2_with fail
   refine HP.out.mono ?_;rintro e W2 ⟨⟨rm,rfl,iJ⟩,fk,eR⟩;obtain⟨m,rfl,hm⟩:=iJ.nat;replace HD:=uh (HD.out.step fk gf.out eR)
   replace gf:=uh eR
   obtain⟨q0,Oq⟩:∃ q0,q0=q+1:=⟨_,rfl⟩
   rw[← Oq]at gf;have Jx:Hid (q0≤p+30000010):=by show _≤_;have:=C3 HQ.out;omega
   clear iJ hm fk eR HP Oq HQ;by_cases m0:m=0
   rotate_left
   ·have d0:((m:Int)==0)=false:=by simp;omega
    have qY:=Mc;have MN:=uh (oU s (.slice sa s.length sc) W2 HD.out.dat.raw (by have:=qY.out.len;omega) (fun b hb=>⟨by have:=sQ hb;have:=qY.out.tot;omega,fun x hx=>by have:=((qY.out.all b hb).2.2 x hx).2.1;omega⟩));have xa:=HD.out.box.at_;have xl:=HD.out.box.own.lt;go_wp2_with (refine wpList_load_mid rfl 25 _ rfl Q 0 rfl [.slice sa s.length sc] _ xa Tryz.underlying25 rfl (by kernel_rfl) ?_)
    refine MN.out.mono ?_;rintro e W8 ⟨c,F,rfl,hr,jl,bR,nM⟩;obtain⟨F2,v2,fk,hc,r2⟩:=jC hr;subst hc;obtain⟨ca,cm,iI⟩:=r2.raw.bm;subst iI;have kC:=uh (HD.out.later nM);have B3:=uh (gf.out.later nM);have yt:Hid (jb L W8 bu [bD s] [.slice ca s.length cm]):=⟨F2,r2,by rw[fk,List.append_nil]at jl;exact jl,fun b hb=>by have:=bR b (by rw[fk];simp[hb]);have:=HD.out.ord;omega⟩
    have cp:W8.there W0.heap.size 0 (#[.slice ca s.length cm]:Array Value).size:=aR kC.out.res.own _ _ (by simp);clear hr jl bR nM r2 fk xa xl;have xl:=kC.out.res.own.lt;go_wp2_with (refine wpList_store_mid rfl 25 _ _ rfl W0.heap.size 0 #[.slice ca s.length cm] rfl rfl cp (by kernel_rfl) (by simp[Value.oneCell']) ?_)
    obtain⟨we,bM⟩:∃ we,we=W8.setCells W0.heap.size 0 [.slice ca s.length cm]:=⟨_,rfl⟩
    have fT:we.rangeAt W0.heap.size 0 [.slice ca s.length cm]:=by rw[bM];exact World.rangeAt_setCells_same _ _ _ _ cp
    have hm:Marks (fun b=>b=W0.heap.size) W8 we:=by rw[bM];exact aM (S:=fun b=>b=W0.heap.size) rfl _ _ _
    have ho:=kC.out.ord;have cj:Hid (jb W0.heap.size we bu [bD s] [.slice ca s.length cm]∧Fr R W0 we∧Rd we R v len q0):=⟨jb.lower (yt.out.bo hm (fun b e=>by have:b=W0.heap.size:=e;omega)) (by omega),kC.out.fr.mks hm (fun b e=>by have:b=W0.heap.size:=e;omega) ho.1,B3.out.mks hm (fun b e=>by have:b=W0.heap.size:=e;omega)⟩
    clear hm ho
    first|rw[← bM]|(simp only[List.toList_toArray];rw[← bM])
    try simp only[Act.put]
    refine bodyPost_ret (v:=.agg #[.slice ca s.length cm]) (by simp[results,Tryz.results35,asAddr,run_loadVar_mid (P:=Tryz.prog) _ _ _ 25 [.slice ca s.length cm] _ fT Tryz.underlying25 rfl (by kernel_rfl)]) rfl ?_;exact⟨⟨s,_,rfl,cj.out.1,qY.out.mono (by omega) (by omega)⟩,cj.out.2.1,q0,by have:=Jx.out;omega,cj.out.2.2⟩
   subst m0;have HP:=uh (bb R v len q0 2 W2 gf.out (by have:=Jx.out;omega) (by omega));go_wp2_with fail
   refine HP.out.mono ?_;rintro e W3 ⟨⟨rm,rfl,iJ⟩,nR,mC⟩;obtain⟨m2,rfl,tL⟩:=iJ.nat;have wN:m2<2:=by have:=tL (by omega);omega
   replace HD:=uh (HD.out.step nR gf.out mC)
   replace gf:=uh mC
   obtain⟨q,hq⟩:∃ q,q=q0+1:=⟨_,rfl⟩
   rw[← hq]at gf;have HQ:Hid (q≤p+30000020):=by show _≤_;have:=Jx.out;omega
   obtain⟨N,hN⟩:∃ N:Nat,N=60 - m2:=⟨_,rfl⟩
   have hN2:IntKind.i64.wrap ((60:Int) - (m2:Int))=(N:Int):=by rw[IntWalk.i64_in _ ⟨by omega,by omega⟩];omega
   have hN60:N≤60:=by omega
   have JA:=HD;have r8:=gf;clear iJ tL nR mC HP hq Jx HD gf hN;obtain⟨n0,wO⟩:∃ n0,n0=s.length:=⟨_,rfl⟩
   go_upto_region 10 with fail
   clear hN2 wN;go_wp2;go_loopw [7] (fun vi wr=>∃ (i:Nat) (s':List Pl.Bl) (sv:Value),i≤60∧vi=.int .i64 i∧DS W0 wr R W0.heap.size Q L s' sv∧s'.length=n0+i∧SdB (5+i) 35 s'∧Rd wr R v len q) (fun vi _=>60 - (intOf vi).toNat)
   case atStart=>exact⟨0,s,_,by omega,rfl,JA.out,by omega,Mc.out,r8.out⟩
   case round=>
    obtain⟨i,s',sv,hi60,rfl,hD,FK,hB,hR⟩:=hrel;clear JA Mc qx r8 wO;obtain⟨s,hs⟩:∃ s,s=s':=⟨_,rfl⟩
    subst hs;obtain⟨sa,sc,HU⟩:=hD.dat.raw.bm;subst HU;have HD:=uh hD;have qx:=uh FK;have qY:=uh hB;have gf:=uh hR;clear hD FK hB hR;have x0:=HD.out.box.get 0 _ rfl;have xl:=HD.out.box.own.lt;by_cases bd:s.length<N
    rotate_left
    ·have Je:¬ ((s.length:Int)<(N:Int)):=by omega
     go_upto_region 14 with fail
     clear x0 xl Je bd;have MN:=uh (oU s (.slice sa s.length sc) wr HD.out.dat.raw (by have:=qY.out.len;omega) (fun b hb=>⟨by have:=sQ hb;have:=qY.out.tot;omega,fun x hx=>by have:=((qY.out.all b hb).2.2 x hx).2.1;omega⟩));have xa:=HD.out.box.at_;have xl:=HD.out.box.own.lt;go_wp2_with (refine wpList_load_mid rfl 25 _ rfl Q 0 rfl [.slice sa s.length sc] _ xa Tryz.underlying25 rfl (by kernel_rfl) ?_)
     refine MN.out.mono ?_;rintro e W8 ⟨c,F,rfl,hr,jl,bR,nM⟩;obtain⟨F2,v2,fk,hc,r2⟩:=jC hr;subst hc;obtain⟨ca,cm,iI⟩:=r2.raw.bm;subst iI;have kC:=uh (HD.out.later nM);have B3:=uh (gf.out.later nM);have yt:Hid (jb L W8 bu [bD s] [.slice ca s.length cm]):=⟨F2,r2,by rw[fk,List.append_nil]at jl;exact jl,fun b hb=>by have:=bR b (by rw[fk];simp[hb]);have:=HD.out.ord;omega⟩
     have cp:W8.there W0.heap.size 0 (#[.slice ca s.length cm]:Array Value).size:=aR kC.out.res.own _ _ (by simp);clear hr jl bR nM r2 fk xa xl;have xl:=kC.out.res.own.lt;go_wp2_with (refine wpList_store_mid rfl 25 _ _ rfl W0.heap.size 0 #[.slice ca s.length cm] rfl rfl cp (by kernel_rfl) (by simp[Value.oneCell']) ?_)
     obtain⟨we,bM⟩:∃ we,we=W8.setCells W0.heap.size 0 [.slice ca s.length cm]:=⟨_,rfl⟩
     have fT:we.rangeAt W0.heap.size 0 [.slice ca s.length cm]:=by rw[bM];exact World.rangeAt_setCells_same _ _ _ _ cp
     have hm:Marks (fun b=>b=W0.heap.size) W8 we:=by rw[bM];exact aM (S:=fun b=>b=W0.heap.size) rfl _ _ _
     have ho:=kC.out.ord;have cj:Hid (jb W0.heap.size we bu [bD s] [.slice ca s.length cm]∧Fr R W0 we∧Rd we R v len q):=⟨jb.lower (yt.out.bo hm (fun b e=>by have:b=W0.heap.size:=e;omega)) (by omega),kC.out.fr.mks hm (fun b e=>by have:b=W0.heap.size:=e;omega) ho.1,B3.out.mks hm (fun b e=>by have:b=W0.heap.size:=e;omega)⟩
     clear hm ho
     first|rw[← bM]|(simp only[List.toList_toArray];rw[← bM])
     try simp only[Act.put]
     refine bodyPost_ret (v:=.agg #[.slice ca s.length cm]) (by simp[results,Tryz.results35,asAddr,run_loadVar_mid (P:=Tryz.prog) _ _ _ 25 [.slice ca s.length cm] _ fT Tryz.underlying25 rfl (by kernel_rfl)]) rfl ?_;exact⟨⟨s,_,rfl,cj.out.1,qY.out.mono (by omega) (by omega)⟩,cj.out.2.1,q,by have:=HQ.out;omega,cj.out.2.2⟩
    have fJ:((s.length:Int)<(N:Int)):=by omega
    have eO:i<60:=by have:=qx.out;omega
    obtain⟨dl,kU⟩:∃ dl:ByteArray,dl=⟨(Lib.decDigits i).toArray⟩:=⟨_,rfl⟩
    have ib:Hid (∀ X,Calls Tryz.prog 13 #[.int .i64 (i:Int)] X fun e w'=>e=.returned (.string dl)∧Bel X w'):=fun X=>by rw[kU];exact xe i (by omega) X
    have hdz:dl.size≤2:=by
     rw[kU];have:=Pl.oc 2 i (by omega) (by omega);show (Lib.decDigits i).toArray.size≤2;rw[List.size_toArray];omega
    obtain⟨nb,tS⟩:∃ nb:ByteArray,nb=({data:=#[110]}++dl):=⟨_,rfl⟩
    obtain⟨kb,kh⟩:∃ kb:ByteArray,kb={data:=#[98,101,114,116,104]}:=⟨_,rfl⟩
    have wI:=uh tS;have tY:=uh kh;have B5:nb.size≤20:=by
     rw[tS,ByteArray.size_append];show 1+dl.size≤20;omega
    have Sl:kb.size≤20:=by rw[kh];decide
    clear tS kh;obtain⟨ls,gJ⟩:∃ ls,ls=Pl.dO s ⟨kb,nb,[]⟩:=⟨_,rfl⟩
    have HPB:Hid (∀ X,Bel wr X→Calls Tryz.prog 16 #[.agg #[.slice sa s.length sc],.agg #[.string kb,.string nb,.slice none 0 0]] X (Gq (fun _=>False) 0 L eU [bD ls] X)):=fun X hX=>by
     rw[gJ];exact ja s ⟨kb,nb,[]⟩ (.slice sa s.length sc) (.slice none 0 0) X (HD.out.dat.later hX) k9 (by have:=qY.out.len;omega) (by have:=HD.out.ord;have:=hX.size;omega)
    have ie:Hid (ls.length=n0+(i+1)∧SdB (5+(i+1)) 35 ls):=by
     refine⟨by rw[gJ,Pl.jY,qx.out];omega, ?_⟩;rw[gJ];exact(qY.out.put ⟨kb,nb,[]⟩ 0 zE zN ⟨Sl,B5,by simp⟩).mono (by omega) (by omega)
    clear B5 Sl;clear gJ kU;go_upto_region 13 with fail
    clear x0 xl fJ bd;refine RY.jS wr zR (CQ L i sa sc s ls dl kb nb) (xU _ _ _ _ _ _ _ _ _) (fun vals W'=>∃ a m,DS W0 W' R W0.heap.size Q L ls (.slice a ls.length m)∧Rd W' R v len q) 6 12 (by kernel_rfl) (by kernel_rfl) (by kernel_rfl) (by kernel_rfl) rfl [5] (by kernel_rfl) (by kernel_rfl) _ rfl rfl (by kernel_rfl) ?_ ?_ ?_
    ·intro ii o' ho E2 a X hX hk hd;have zQ:=HD.out.box.later hX;have zQl:=zQ.own.lt;match ii,ho with
     |0,ho=>
      injection ho with ho;subst ho
      have v3:a.eval (.tmp 3)=.pointer (some ⟨Q,0,none⟩):=(hk 3 (by kernel_rfl)).trans rfl;exact Or.inl ⟨_,X,ar 25 _ rfl Q 0 v3 [.slice sa s.length sc] _ zQ.at_ Tryz.underlying25 rfl (by kernel_rfl),zR,rfl⟩
     |1,ho=>
      injection ho with ho;subst ho
      have e7:a.tmps[7]?.getD undef=.int .i64 (i:Int):=(RY.af a 7).trans ((hk 7 (by kernel_rfl)).trans rfl);exact Or.inl ⟨.int .i64 (i:Int),X,by simp[execOp,go_sem,e7],zR,rfl⟩
     |2,ho=>
      injection ho with ho;subst ho
      have e41:a.tmps[41]?.getD undef=.int .i64 (i:Int):=(RY.af a 41).trans (hd 1 _ 41 rfl rfl ⟨⟨1,.data⟩,by simp,rfl,rfl⟩ (by decide));refine Or.inr ⟨13,#[.int .i64 (i:Int)],by simp[go_sem,e41],(ib.out X).mono ?_⟩;rintro e W' ⟨rfl,hb⟩;exact⟨_,rfl,hb,rfl⟩
     |3,ho=>
      injection ho with ho;subst ho
      have e42:a.tmps[42]?.getD undef=.string dl:=(RY.af a 42).trans (hd 2 _ 42 rfl rfl ⟨⟨2,.data⟩,by simp,rfl,rfl⟩ (by decide));refine Or.inl ⟨.string nb,X, ?_,zR,rfl⟩;rw[wI.out];simp[execOp,go_sem,e42];try omega
     |4,ho=>
      injection ho with ho;subst ho
      have e43:a.tmps[43]?.getD undef=.string nb:=(RY.af a 43).trans (hd 3 _ 43 rfl rfl ⟨⟨3,.data⟩,by simp,rfl,rfl⟩ (by decide));refine Or.inl ⟨.agg #[.string kb,.string nb,.slice none 0 0],X, ?_,zR,rfl⟩;rw[tY.out];simp[execOp,go_sem,e43]
     |5,ho=>
      injection ho with ho;subst ho
      have e40:a.tmps[40]?.getD undef=.agg #[.slice sa s.length sc]:=(RY.af a 40).trans (hd 0 _ 40 rfl rfl ⟨⟨0,.data⟩,by simp,rfl,rfl⟩ (by decide));have e44:a.tmps[44]?.getD undef=.agg #[.string kb,.string nb,.slice none 0 0]:=(RY.af a 44).trans (hd 4 _ 44 rfl rfl ⟨⟨4,.data⟩,by simp,rfl,rfl⟩ (by decide));refine Or.inr ⟨16,#[.agg #[.slice sa s.length sc],.agg #[.string kb,.string nb,.slice none 0 0]],by simp[go_sem,e40,e44],(HPB.out X hX).mono ?_⟩;rintro e W' ⟨c,rfl,yA,hb⟩;obtain⟨pa,pm,hc,yv⟩:=mu yA;subst hc;exact⟨_,rfl,hb,pa,pm,rfl,yv⟩
     |n+6,ho=>omega
    ·intro a X vals hX hk hV hd;obtain⟨a1,m1,e45,hD1⟩:=hV 5 (by decide);have f45:=(hd 5 _ 45 rfl rfl ⟨⟨5,.data⟩,by simp,rfl,rfl⟩ (by decide)).trans e45;have f3:a.eval (.tmp 3)=.pointer (some ⟨Q,0,none⟩):=(hk 3 (by kernel_rfl)).trans rfl;have Sg:=HD.out.later hX;have cp:X.there Q 0 (#[.slice a1 ls.length m1]:Array Value).size:=aR Sg.box.own _ _ (by simp);have ho:=Sg.ord;exact⟨X.setCells Q 0 [.slice a1 ls.length m1],RY.dW _ _ _ rfl f3 f45 cp (by kernel_rfl) (by simp[Value.oneCell']),a1,m1,Sg.put hD1,(gf.out.later hX).mks (aM (S:=fun b=>b=Q) rfl _ _ _) (fun b e=>by have:b=Q:=e;omega)⟩
    ·intro vals vs X hK bg;simp only[RY.aC,Act.put,List.setIfInBounds_toArray,List.set_cons_zero,List.set_cons_succ];generalize vs 40=s40;generalize vs 41=s41;generalize vs 42=s42;generalize vs 43=s43;generalize vs 44=s44;generalize vs 45=s45;clear bg;obtain⟨a,m,hD3,mC⟩:=hK;have K4:=uh hD3;have v9:=uh mC;clear hD3 mC HD gf HPB ib;go_wp2;go_roundw
     case rel=>exact⟨i+1,ls,_,by omega,by go_num,K4.out,ie.out.1,ie.out.2,v9.out⟩
     case measure=>simp[intOf];omega
  obtain⟨k,rfl⟩:∃ k',k=k'+1:=⟨k - 1,by omega⟩
  have ec:(0:Int)<((k+1:Nat):Int):=by omega
  have HL:=uh (Av R v len q wr gf.out (by have:=C3 HQ.out;omega));go_wp2_with fail
  refine HL.out.mono ?_;rintro e W3 ⟨⟨b,lv,rfl,My,eP⟩,nR,q3,NO,mC⟩;obtain⟨ba,bc,L8⟩:=My.raw.bm;subst L8;obtain⟨W4,qZ⟩:∃ W4,W4=W3.alloc (.cells #[.string b.kind,.string b.name,.slice ba b.lines.length bc] 41):=⟨_,rfl⟩
  obtain⟨BX,qy⟩:∃ BX,BX=W3.heap.size:=⟨_,rfl⟩
  have tT:Bel W3 W4:=by rw[qZ];exact ae zR _
  have kr:Hid (al W4 BX 41 [.string b.kind,.string b.name,.slice ba b.lines.length bc]):=by show al _ _ _ _;rw[qZ,qy];exact al.new _ _ _ _ rfl
  have ue:Hid (Dat (fun _=>False) 0 L W4 bF [bT b.lines] [.slice ba b.lines.length bc]):=Dat.later (Dat.lower My (by have:=HD.out.ord;omega)) tT;have wh:=uh ((HD.out.step nR gf.out mC).later tT);have nz:=uh (mC.later tT);have kq:=uh eP;have BK:=uh NO;go_upto_region 6 with fail
  rw[← qZ,← qy];clear qZ qy tT My eP nR NO mC HL HD gf ec;have xa:=wh.out.box.at_;have xl:=wh.out.box.own.lt;have y0:=kr.out.get 0 _ rfl;have y1:=kr.out.get 1 _ rfl;have yl:=kr.out.own.lt;have HK:=uh (Da s (.slice sa s.length sc) b.kind b.name W4 wh.out.dat.raw);obtain⟨fi,hfi⟩:∃ fi:Int,fi=Pl.ixI (Pl.gQ s b.kind b.name):=⟨_,rfl⟩
  rw[← hfi]at HK;clear hfi;go_wp2_with (refine wpList_load_mid rfl 25 _ rfl Q 0 rfl [.slice sa s.length sc] _ xa Tryz.underlying25 rfl (by kernel_rfl) ?_)
  refine HK.out.mono ?_;rintro e W6 ⟨rfl,oz⟩;rcases hf0:decide (fi<0) with _|_
  ·have qu:=uh (wh.out.later oz);have Be:=uh (nz.out.later oz);clear oz xa xl y0 y1 yl HK wh kr ue nz;go_wp2;go_roundw
   case rel=>exact⟨k,q3,s,_,by omega,by go_num,qu.out,by have:=qx.out;omega,qY.out,yN HQ.out BK.out,Be.out⟩
   case measure=>simp[intOf]
  have qu:=uh (wh.out.later oz);have Ib:=uh (kr.out.later oz);have BL:=uh (ue.out.later oz);have Be:=uh (nz.out.later oz);clear oz xa xl y0 y1 yl HK wh kr ue nz;have tx:=uh (ja (S:=fun _=>False) (B:=0) (lo:=L) s b (.slice sa s.length sc) (.slice ba b.lines.length bc) W6 qu.out.dat BL.out (by have:=qx.out;omega) (by have:=qu.out.ord;omega));obtain⟨ls,gJ⟩:∃ ls,ls=Pl.dO s b:=⟨_,rfl⟩
  rw[← gJ]at tx;have ie:Hid (ls.length=s.length+1∧SdB 5 (7*ls.length) ls):=by
   have e:ls.length=s.length+1:=by rw[gJ,Pl.jY]
   refine⟨e, ?_⟩;have:=qY.out.put b 7 kq.out.2.2.1 kq.out.2.2.1 ⟨kq.out.1,kq.out.2.1,kq.out.2.2.2⟩;rw[← gJ]at this;exact⟨by have:=qx.out;omega,by have:=this.tot;omega,this.all,this.per⟩
  clear gJ;have xa:=qu.out.box.at_;have xl:=qu.out.box.own.lt;have ya:=Ib.out.at_;have yl:=Ib.out.own.lt;go_upto_region 4 with(first|(refine wpList_load_mid rfl 25 _ rfl Q 0 rfl [.slice sa s.length sc] _ xa Tryz.underlying25 rfl (by kernel_rfl) ?_)|(refine wpList_load_mid rfl 41 _ rfl BX 0 rfl [.string b.kind,.string b.name,.slice ba b.lines.length bc] _ ya Tryz.underlying41 rfl (by kernel_rfl) ?_)|(go_at_call 16;refine tx.out.mono ?_;rintro e W8 ⟨c,rfl,yA,nM⟩;obtain⟨pa,pm,hc,yv⟩:=mu yA;subst hc;have kC:=uh (qu.out.later nM);have B3:=uh (Be.out.later nM);have yt:=uh yv;have cp:W8.there Q 0 (#[.slice pa ls.length pm]:Array Value).size:=aR kC.out.box.own _ _ (by simp);clear yv yA nM xa xl ya yl;have xl:=kC.out.box.own.lt)|(refine wpList_store_mid rfl 25 _ _ rfl Q 0 #[.slice pa ls.length pm] rfl rfl cp (by kernel_rfl) (by simp[Value.oneCell']) ?_))
  obtain⟨W9,qA⟩:∃ W9,W9=W8.setCells Q 0 [.slice pa ls.length pm]:=⟨_,rfl⟩
  have K5:Hid (DS W0 W9 R W0.heap.size Q L ls (.slice pa ls.length pm)):=by show DS _ _ _ _ _ _ _ _;rw[qA];exact kC.out.put yt.out
  have iG:Hid (Rd W9 R v len q3):=by show Rd _ _ _ _ _;rw[qA];exact B3.out.mks (aM (S:=fun b=>b=Q) rfl _ _ _) (fun b e=>by have:b=Q:=e;have:=kC.out.ord;omega)
  first|rw[← qA]|(simp only[List.toList_toArray];rw[← qA])
  clear qA cp xl kC B3 yt tx;go_wp2;go_roundw
  case rel=>exact⟨k,q3,ls,_,by omega,by go_num,K5.out,by have:=qx.out;have:=ie.out.1;omega,ie.out.2,yN HQ.out BK.out,iG.out⟩
  case measure=>simp[intOf]
theorem lC {P:Program} (t ty e:TypeId) (size bytes:Nat) (z:Value) (ht:P.underlying t=some (.slice e)) (hinf:(P.info? e).map (fun i=>(i.zero,i.size,i.bytes))=some (some z,size,bytes)) (I5:z.cells.size=size) (hb:bytes≤1000)
  (sh:List Sh) (hk:sh.length=size) (W:World) {F:List Nat} {n:Nat} {es:List Dt} {v:Value} (h:Rep W false [.row e sh] F [.row n es] [v]) (jl:∀ p G,F=p::G→p ∉ G) (hn:n≤4194304) {F':List Nat} {d:List Dt} {c':List Value} (ad:Addr) (hd:Rep W false sh F' d c') (hdj:∀ p G,F=p::G→p ∉ F')
  (kX:∀ j u,c'[j]? =some u→W.cell? (ad.add j)=some u):
  ∃ v' W' F'' row,(Builtin.append_ #[t,t] ty #[v,.slice (some ad) 1 1]).run P W=.ok v' W'∧Rep W' false [.row e sh] F'' [.row (n+1) (es++d)] [v']∧(∀ p G,F''=p::G→p ∉ G∧((∃ G',F=p::G')∨p=W.heap.size))∧(∀ b∈F'',b∈F∨b∈F'∨b=W.heap.size)∧W.grownBy W' row∧(∀ b,row=some b→∃ G,F=b::G)∧Marks (fun b=>row=some b) W W':=by
 obtain⟨i,hi,ei⟩:=Option.map_eq_some_iff.1 hinf;simp only[Prod.mk.injEq]at ei;obtain⟨hz,hs,ud⟩:=ei;have hc:c'.length=1*i.size:=by rw[hd.len,hk,hs,Nat.one_mul]
 have tS:(n+1)*bytes≤4194305*1000:=Nat.mul_le_mul (by omega) hb;have hsr:Src P i.size t (.slice (some ad) 1 1) 1 c' W:=Src.ofSlice W ht ad 1 1 c' hc kX (fun u hu=>hd.raw.one u hu);have bd:=hd.lt;have grow:∀ (base:Option Addr) (cap:Nat) (vs:List Value) (G:List Nat),cap<n+1→vs.length=n*i.size→(Builtin.firstCells i.size n (.slice base n cap)).run P W.drew=.ok vs.toArray W.drew→Rep W false (bf n sh) G es vs→(∀ b∈G,b∈F)→v=.slice base n cap→
   ∃ v' W' F'' row,(Builtin.append_ #[t,t] ty #[v,.slice (some ad) 1 1]).run P W=.ok v' W'∧Rep W' false [.row e sh] F'' [.row (n+1) (es++d)] [v']∧(∀ p G,F''=p::G→p ∉ G∧((∃ G',F=p::G')∨p=W.heap.size))∧(∀ b∈F'',b∈F∨b∈F'∨b=W.heap.size)∧W.grownBy W' row∧(∀ b,row=some b→∃ G,F=b::G)∧Marks (fun b=>row=some b) W W':=by
  intro base cap vs G yg fQ hfc hR vV hv;subst hv;have hr:=run_append_grow_src (P:=P) W t t ty e i z ht hi hz base n cap vs hfc (.slice (some ad) 1 1) 1 c' hsr yg (by omega) (growslice_fits (by omega) (by rw[ud];omega));have hge:=grownCap_ge W (n+1) cap e;have hle:=grownCap_le_maxLen W (n+1) cap e (by unfold maxLen;omega);have eY:Bel W (W.drew.alloc (.cells ((vs++c').toArray++Builtin.zeroCells z.cells (grownCap W (n+1) cap e - (n+1))) e)):=ae (Below.drew zR) _;have ko:(vs++c').length=(n+1)*i.size:=by rw[List.length_append,fQ,hc,← Nat.add_mul]
  refine⟨_,_,W.heap.size::((G++F')++[]),none,hr, ?_, ?_, ?_,⟨eY.os,eY.tape,eY.output,eY.size,fun k hk _=>eY.block k hk⟩,(fun b hb=>by cases hb),Marks.aG _ eY⟩
  ·refine Rep.row e sh W.heap.size 0 (n+1) (grownCap W (n+1) cap e) e (grownCap W (n+1) cap e*sh.length) (vs++c') (es++d) (G++F') ⟨_,heap_alloc_new W.drew _, ?_⟩ (by omega) (by simp) ⟨by unfold maxLen;omega,hge⟩ ?_ ?_ .nil
   ·rw[Array.size_append,size_zeroCells,I5,hk,List.size_toArray,ko,hs,← Nat.add_mul];congr 1;omega
   ·intro j x hx;rw[Nat.zero_add];refine(World.cell?_alloc_at _ _ _ _ rfl).trans ?_;have hj:j<(vs++c').length:=(List.getElem?_eq_some_iff.1 hx).1;rw[Array.getElem?_append_left (by simpa using hj)];simpa using hx
   ·rw[iv];exact(hR.later eY).app (hd.later eY)
  ·intro p G1 OQ;injection OQ with e1 e2
   subst e1;subst e2;refine⟨fun hb=> ?_,Or.inr rfl⟩;rw[List.append_nil]at hb;rcases List.mem_append.1 hb with hb|hb
   ·have:=hR.lt _ hb;omega
   ·have:=bd _ hb;omega
  ·intro b hb;rw[List.append_nil]at hb;rcases List.mem_cons.1 hb with rfl|hb
   ·exact Or.inr (Or.inr rfl)
   ·rcases List.mem_append.1 hb with hb|hb
    ·exact Or.inl (vV b hb)
    ·exact Or.inr (Or.inl hb)
 rcases h.slice with⟨_,rfl,rfl,rfl,a,rfl⟩|⟨p,o,c,u,m,G,rfl,rfl,qs,ho,qj,_,vs,hr,hR⟩
 ·refine grow a 0 [] [] (by omega) (by simp) ?_ .nil (by simp) rfl;cases a with
  |none=>exact run_firstCells_none W.drew i.size 0 0 0
  |some ad2=>exact run_firstCells_some W.drew i.size 0 ad2 0 0 [] (by simp) (fun j u h=>by simp at h)
 ·have fQ:vs.length=n*i.size:=by rw[hR.len,bj,hk,hs]
  by_cases hroom:n+1≤c
  ·have RF:o+(n+1)*i.size≤m:=by
    have h1:=Nat.mul_le_mul_right i.size hroom;have h2:=qs.2.2;rw[hk,← hs]at h2;omega
   have mP:(n+1)*i.size=n*i.size+i.size:=by rw[Nat.add_mul,Nat.one_mul]
   have mF:=run_append_room_src (P:=P) W t t ty e i ht hi p o n c (.slice (some ad) 1 1) 1 c' hsr hroom (fun j hj=>by
    obtain⟨x,hx⟩:=ho.cell (o+n*i.size+j) (by omega);rw[hx];rfl) (fun j hj=>ho.frozen _)
   have ou:p ∉ G:=jl p G rfl;have B2:p ∉ F':=hdj p G rfl;have hm:Marks (fun b=>b=p) W (W.setCells p (o+n*i.size) c'):=aM (S:=fun b=>b=p) rfl _ _ _;refine⟨_,_,p::((G++F')++[]),some p,mF, ?_, ?_, ?_,⟨hm.os,hm.tape,hm.output,hm.size,fun k hk du=>hm.block k hk (fun q=>du (by rw[q]))⟩,fun b hb=>by injection hb with hb;exact⟨G,by rw[← hb]⟩,hm.mono fun c e=>by rw[e]⟩
   ·refine Rep.row e sh p o (n+1) c u m (vs++c') (es++d) (G++F') (dB _ _ _ ho) qs.2.2 (by simp) ⟨by unfold maxLen;omega,hroom⟩ (kJ ?_ ?_) ?_ .nil
    ·exact World.rangeAt_setCells_apart hr _ _ _ (Or.inr (Or.inl (by omega)))
    ·rw[fQ];exact World.rangeAt_setCells_same _ _ _ _ (aR ho _ _ (by omega))
    ·rw[iv];refine(hR.bo hm fun b hb q=>ou (by have:b=p:=q;rw[← this];exact hb)).app (hd.bo hm fun b hb q=>B2 (by have:b=p:=q;rw[← this];exact hb))
   ·intro p1 G1 OQ;injection OQ with e1 e2
    subst e1;subst e2;refine⟨fun hb=> ?_,Or.inl ⟨G,rfl⟩⟩;rw[List.append_nil]at hb;rcases List.mem_append.1 hb with hb|hb
    ·exact ou hb
    ·exact B2 hb
   ·intro b hb;rw[List.append_nil]at hb;rcases List.mem_cons.1 hb with rfl|hb
    ·exact Or.inl (by simp)
    ·rcases List.mem_append.1 hb with hb|hb
     ·exact Or.inl (List.mem_cons_of_mem _ hb)
     ·exact Or.inr (Or.inl hb)
  ·exact grow (some ⟨p,o,none⟩) c vs G (by omega) fQ (run_firstCells_some W.drew i.size n ⟨p,o,none⟩ n c vs fQ (fun j x hx=>by rw[Addr.add_mid];simpa using hr j x hx)) hR (fun b hb=>by simp[hb]) rfl
inductive PkV (t:ByteArray):List Value→List Value→Prop
 |nil:PkV t [] []
 |same (a:Value) {x y:List Value} (h:PkV t x y):PkV t (a::x) (a::y)
 |put (a:ByteArray) {x y:List Value} (h:PkV t x y):PkV t (.string a::x) (.string t::y)
inductive PkD (t:ByteArray):List Dt→List Dt→Prop
 |nil:PkD t [] []
 |same (a:Dt) {x y:List Dt} (h:PkD t x y):PkD t (a::x) (a::y)
 |put (a:ByteArray) {x y:List Dt} (h:PkD t x y):PkD t (.s a::x) (.s t::y)
 |row (n:Nat) {e e':List Dt} (he:PkD t e e') {x y:List Dt} (h:PkD t x y):PkD t (.row n e::x) (.row n e'::y)
theorem PkV.refl (t:ByteArray):∀ x:List Value,PkV t x x
 |[]=> .nil
 |a::x=> .same a (PkV.refl t x)
theorem PkV.set (t:ByteArray):∀ (x:List Value) (j:Nat) (a:ByteArray),x[j]? =some (.string a)→PkV t x (x.set j (.string t))
 |[],j,a,h=>by simp at h
 |v::x,0,a,h=>by
  have:v=.string a:=by simpa using h
  subst this;exact .put a (PkV.refl t x)
 |v::x,j+1,a,h=>by
  rw[List.set_cons_succ];exact .same v (PkV.set t x j a (by simpa using h))
theorem Gi {W:World} {p o B O:Nat} {u:TypeId} {m:Nat} (ho:aV W B u m) (hO:O<m) {t x:ByteArray} (hx:W.cell? ⟨B,O,none⟩=some (.string x)) {vs:List Value} (h:W.rangeAt p o vs):∃ vs',(W.setCell ⟨B,O,none⟩ (.string t)).rangeAt p o vs'∧PkV t vs vs':=by
 by_cases hc:p=B∧o≤O∧O<o+vs.length
 ·obtain⟨rfl,h1,h2⟩:=hc;have hj:O - o<vs.length:=by omega
  have e:=h (O - o) vs[O - o] (by simp[hj]);have e2:o+(O - o)=O:=by omega
  rw[e2,hx]at e;injection e with e
  refine⟨vs.set (O - o) (.string t),fun j v hv=> ?_,PkV.set t vs (O - o) x (by simp[hj,← e])⟩;have BZ:j<vs.length:=by have:=(List.getElem?_eq_some_iff.1 hv).1;simpa using this
  by_cases ej:j=O - o
  ·subst ej;have:v=.string t:=by rw[List.getElem?_set_self hj]at hv;injection hv with hv;exact hv.symm
   rw[this,e2];exact uw ho _ hO _
  ·rw[List.getElem?_set_ne (fun q=>ej q.symm)]at hv;rw[ni _ _ _ _ _ _ (Or.inr (by omega))];exact h j v hv
 ·refine⟨vs,fun j v hv=> ?_,PkV.refl t vs⟩;have BZ:j<vs.length:=(List.getElem?_eq_some_iff.1 hv).1;rw[ni _ _ _ _ _ _ (by by_cases q:p=B;right;intro e;exact hc ⟨q,by omega,by omega⟩;left;exact q)];exact h j v hv
theorem Rep.QE {W:World} {B O:Nat} {u:TypeId} {m:Nat} (ho:aV W B u m) (hO:O<m) {t x:ByteArray} (hx:W.cell? ⟨B,O,none⟩=some (.string x)) {ss:List Sh} {F:List Nat} {ds:List Dt} {cs:List Value} (h:Rep W false ss F ds cs):∀ qO,PkV t cs qO→∃ ds',Rep (W.setCell ⟨B,O,none⟩ (.string t)) false ss F ds' qO∧PkD t ds ds':=by
 have hb:Marks (fun b=>b=B) W (W.setCell ⟨B,O,none⟩ (.string t)):=Marks.sc (S:=fun b=>b=B) W rfl O _;induction h with
 |nil=>intro qO hp;cases hp;exact⟨[],.nil,.nil⟩
 |i n h ih=>
  intro qO hp;cases hp with
  |same a hq=>obtain⟨d,r,k⟩:=ih _ hq;exact⟨.i n::d,.i n r,.same _ k⟩
 |b n h ih=>
  intro qO hp;cases hp with
  |same a hq=>obtain⟨d,r,k⟩:=ih _ hq;exact⟨.b n::d,.b n r,.same _ k⟩
 |s n h ih=>
  intro qO hp;cases hp with
  |same a hq=>obtain⟨d,r,k⟩:=ih _ hq;exact⟨.s n::d,.s n r,.same _ k⟩
  |put a hq=>obtain⟨d,r,k⟩:=ih _ hq;exact⟨.s t::d,.s t r,.put _ k⟩
 |emp ty sh a ht h ih=>
  intro qO hp;cases hp with
  |same a hq=>obtain⟨d,r,k⟩:=ih _ hq;exact⟨.row 0 []::d,.emp ty sh _ ht r,.same _ k⟩
 |row ty sh p o n c u2 m2 vs es G Ql hm ht hn hr he h ih1 ih2=>
  intro qO hp;cases hp with
  |same a hq=>
   obtain⟨d,r,k⟩:=ih2 _ hq;obtain⟨vs',Fa,FH⟩:=Gi ho hO hx (t:=t) hr;obtain⟨e',re,ke⟩:=ih1 _ FH;exact⟨.row n e'::d,.row ty sh p o n c u2 m2 vs' e' G (hb.own _ _ _ Ql) hm ht hn Fa re r,.row n ke k⟩
structure Gz (s:List Pl.Bl):Prop where
 ok:xm s
 wt:Pl.wsh s≤1048576
 ln:s.length≤4194304
theorem Gz.lw {s:List Pl.Bl} (h:Gz s):∀ b∈s,b.lines.length≤4194304∧∀ x∈b.lines,x.ws.length≤4194304:=uq s h.wt
theorem xT {α:Type} (f:α→Nat) (m:Nat):∀ l:List α,(∀ x∈l,f x≤m)→(l.map f).sum≤l.length*m
 |[],_=>by simp
 |x::l,h=>by
  have h1:=xT f m l fun y hy=>h y (by simp[hy]);have h2:=h x (by simp);rw[List.map_cons,List.sum_cons,List.length_cons,Nat.succ_mul];omega
theorem KA {x:Pl.Ln} (h:LnB x):Pl.wln x≤12030:=by
 have h1:=xT (fun w:ByteArray=>w.size+1) 4001 x.ws fun w hw=>by have:=h.2.2 w hw;show w.size+1≤4001;omega
 have h2:Pl.wln x=x.key.size+(x.ws.map fun w=>w.size+1).sum:=rfl;have h3:=h.1;have h4:=h.2.1;have h5:x.ws.length*4001≤3*4001:=Nat.mul_le_mul_right _ h4;omega
theorem sE:∀ s:List Pl.Bl,(∀ b∈s,b.kind.size≤20∧b.name.size≤20∧∀ x∈b.lines,LnB x)→Pl.wsh s≤s.length*41+tl s*12031
 |[],_=>by simp[Pl.wsh,tl]
 |b::s,h=>by
  have h1:=sE s fun c hc=>h c (by simp[hc]);have hb:=h b (by simp);have h2:=xT (fun x=>Pl.wln x+1) 12031 b.lines fun x hx=>by have:=KA (hb.2.2 x hx);show Pl.wln x+1≤12031;omega
  have h3:Pl.wsh (b::s)=(b.kind.size+b.name.size+(b.lines.map fun x=>Pl.wln x+1).sum+1)+Pl.wsh s:=by
   show ((b::s).map fun b=>Pl.wbl b+1).sum=_;rw[List.map_cons,List.sum_cons];rfl
  have h4:tl (b::s)=b.lines.length+tl s:=by simp[tl]
  rw[h3,h4,List.length_cons,Nat.succ_mul,Nat.add_mul];omega
theorem KL (k:ByteArray):∀ r∈Pl.ai k,r.many=false→(⟨r.key,r.dflt⟩:Pl.Ln).key.size≤20∧Pl.wln ⟨r.key,r.dflt⟩≤200∧∀ t∈r.dflt,t.size≤100:=by
 unfold Pl.ai;split
 ·decide+kernel
 ·split
  ·decide+kernel
  ·split
   ·decide+kernel
   ·intro r h;cases h
theorem KN (k:ByteArray) (l:List Pl.Ln) (x:Pl.Ln):((Pl.ck k l x).map fun x=>Pl.wln x+1).sum=(l.map fun x=>Pl.wln x+1).sum+(Pl.wln x+1):=by
 have e:=List.takeWhile_append_dropWhile (p:=fun y=>Pl.aL k y x) (l:=l);have h:(l.map fun x=>Pl.wln x+1).sum=((l.takeWhile fun y=>Pl.aL k y x).map fun x=>Pl.wln x+1).sum+((l.dropWhile fun y=>Pl.aL k y x).map fun x=>Pl.wln x+1).sum:=by
  rw[← List.sum_append,← List.map_append,e]
 rw[h];simp only[Pl.ck,Pl.putAt,List.map_append,List.map_cons,List.sum_append,List.sum_cons];omega
theorem zh (k:ByteArray):∀ (rs:List Pl.Ru) (l:List Pl.Ln),(∀ r∈rs,r.many=false→Pl.wln ⟨r.key,r.dflt⟩≤200)→((Pl.pq k l rs).map fun x=>Pl.wln x+1).sum≤(l.map fun x=>Pl.wln x+1).sum+rs.length*201
 |[],l,_=>by show (l.map fun x=>Pl.wln x+1).sum≤_;omega
 |r::rs,l,h=>by
  have h1:=zh k rs (Pl.jD k l r) fun q hq=>h q (by simp[hq]);have h2:((Pl.jD k l r).map fun x=>Pl.wln x+1).sum≤(l.map fun x=>Pl.wln x+1).sum+201:=by
   unfold Pl.jD;split
   ·rename_i hc
    rw[KN];have:=h r (by simp) (by simp at hc;exact hc.1);omega
   ·omega
  have e:Pl.pq k l (r::rs)=Pl.pq k (Pl.jD k l r) rs:=rfl;rw[e,List.length_cons,Nat.succ_mul];omega
theorem sJ (g:Pl.Bl→Pl.Bl) (m:Nat) (h:∀ b,Pl.wbl (g b)≤Pl.wbl b+m):∀ s:List Pl.Bl,Pl.wsh (s.map g)≤Pl.wsh s+s.length*m
 |[]=>by simp[Pl.wsh]
 |b::s=>by
  have h1:=sJ g m h s;have h2:=h b;have e:∀ (c:Pl.Bl) (t:List Pl.Bl),Pl.wsh (c::t)=(Pl.wbl c+1)+Pl.wsh t:=fun c t=>by unfold Pl.wsh;rw[List.map_cons,List.sum_cons]
  rw[List.map_cons,e,e,List.length_cons,Nat.succ_mul];omega
theorem kx (f:Pl.Ln→Nat) (p:Pl.Ln→Bool):∀ l:List Pl.Ln,((l.filter p).map f).sum≤(l.map f).sum
 |[]=>by simp
 |x::l=>by
  have:=kx f p l;rw[List.filter_cons];split
  ·rw[List.map_cons,List.map_cons,List.sum_cons,List.sum_cons];omega
  ·rw[List.map_cons,List.sum_cons];omega
def ki (W:World) (lo:Nat) (s:List Pl.Bl) (v:Value):Prop:=(s=[]∧∃ a c,v=.slice a 0 c)∨∃ p o c,v=.slice (some ⟨p,o,none⟩) s.length c∧(s.length≤maxLen∧s.length≤c)∧dQ W p o lo s
theorem FX {W:World} {lo:Nat} {s:List Pl.Bl} {v:Value} (h:jb lo W bu [bD s] [v]) (hl:s.length≤maxLen):ki W lo s v:=by
 obtain⟨F,r,nd,bR⟩:=h;by_cases h0:s.length=0
 ·obtain⟨a,c,e⟩:=r.raw.bm;rw[h0]at e;exact Or.inl ⟨List.length_eq_zero_iff.1 h0,a,c,e⟩
 ·obtain⟨p,o,c,e,hc,hx⟩:=ti r nd bR (by omega);exact Or.inr ⟨p,o,c,e,⟨hl,hc⟩,hx⟩
theorem ki.bo {W W':World} {T:Nat→Prop} {lo:Nat} {s:List Pl.Bl} {v:Value} (h:ki W lo s v) (hb:Marks T W W') (hT:∀ b,T b→b<lo):ki W' lo s v:=by
 rcases h with h|⟨p,o,c,e,hc,hx⟩
 ·exact Or.inl h
 ·exact Or.inr ⟨p,o,c,e,hc,hx.bo hb hT⟩
theorem dQ.lower {W:World} {p o lo lo':Nat} {l:List Pl.Bl} (h:dQ W p o lo l) (hl:lo'≤lo):dQ W p o lo' l:=by
 obtain⟨u,m,vs,G,h1,h2,h3,h4,h5,h6⟩:=h;exact⟨u,m,vs,G,h1,h2,h3,h4,fun b hb=>⟨Nat.le_trans hl (h5 b hb).1,(h5 b hb).2⟩,Nat.le_trans hl h6⟩
theorem ki.lower {W:World} {lo lo':Nat} {s:List Pl.Bl} {v:Value} (h:ki W lo s v) (hl:lo'≤lo):ki W lo' s v:=by
 rcases h with h|⟨p,o,c,e,hc,hx⟩
 ·exact Or.inl h
 ·exact Or.inr ⟨p,o,c,e,hc,hx.lower hl⟩
theorem ki.raw {W:World} {lo:Nat} {s:List Pl.Bl} {v:Value} (h:ki W lo s v):Raw W bu [bD s] [v]:=by
 rcases h with⟨rfl,a,c,rfl⟩|⟨p,o,c,rfl,hc,hx⟩
 ·exact .emp _ _ a c .nil
 ·exact hx.raw hc
theorem ki.len {W:World} {lo:Nat} {s:List Pl.Bl} {v:Value} (h:ki W lo s v):∃ a c,v=.slice a s.length c:=h.raw.bm
structure Sw (s:List Pl.Bl):Prop where
 len:s.length≤70
 wt:Pl.wsh s≤850000
theorem SdB.sw {s:List Pl.Bl} (h:SdB 66 40 s):Sw s:=by
 have hw:=sE s h.all;have h1:s.length*41≤66*41:=Nat.mul_le_mul_right _ h.len;have h2:tl s*12031≤40*12031:=Nat.mul_le_mul_right _ h.tot;exact⟨by have:=h.len;omega,by omega⟩
theorem DJ {s:List Pl.Bl} (h:Pl.wsh s≤1048576):xm s:=fun b hb=>by
 have h1:=Pl.cW (fun b=>Pl.wbl b+1) s b hb;have h2:Pl.wbl b=b.kind.size+b.name.size+(b.lines.map fun x=>Pl.wln x+1).sum:=rfl;unfold Pl.wsh at h;refine⟨by unfold maxLen;omega,fun x hx t ht=> ?_⟩;have mem2:∀ (f:Pl.Ln→Nat) (l:List Pl.Ln) (y:Pl.Ln),y∈l→f y≤(l.map f).sum:=by
  intro f l;induction l with
  |nil=>intro y hy;cases hy
  |cons z l ih=>
   intro y hy;rw[List.map_cons,List.sum_cons];rcases List.mem_cons.1 hy with rfl|q
   ·omega
   ·have:=ih y q;omega
 have mem3:∀ (l:List ByteArray) (y:ByteArray),y∈l→y.size+1≤(l.map fun w=>w.size+1).sum:=by
  intro l;induction l with
  |nil=>intro y hy;cases hy
  |cons z l ih=>
   intro y hy;rw[List.map_cons,List.sum_cons];rcases List.mem_cons.1 hy with rfl|q
   ·omega
   ·have:=ih y q;omega
 have h3:=mem2 (fun x=>Pl.wln x+1) b.lines x hx;have h4:Pl.wln x=x.key.size+(x.ws.map fun w=>w.size+1).sum:=rfl;have h5:=mem3 x.ws t ht;have h6:Pl.wln x+1≤(b.lines.map fun x=>Pl.wln x+1).sum:=h3;unfold maxLen;omega
theorem Sw.gz {s:List Pl.Bl} (h:Sw s):Gz s∧Gz (Pl.od s)∧Gz (Pl.om s):=by
 have hw:=h.wt;have hl:=h.len;refine⟨⟨DJ (by omega),by omega,by omega⟩, ?_, ?_⟩
 ·have hf:Pl.wsh (Pl.od s)≤1048576∧(Pl.od s).length≤70:=by
   unfold Pl.od;cases hv:Pl.bH s
   ·exact⟨by simp[Pl.wsh],by simp⟩
   ·have BT:=vU hv;have hm:=sJ Pl.Er 2412 (fun b=>by
     have h3:=zh b.kind (Pl.ai b.kind) b.lines fun r hr hm=>(KL b.kind r hr hm).2.1;have h4:=fX b.kind;have h5:(Pl.ai b.kind).length*201≤12*201:=Nat.mul_le_mul_right _ h4;show b.kind.size+b.name.size+((Pl.pq b.kind b.lines (Pl.ai b.kind)).map fun x=>Pl.wln x+1).sum≤b.kind.size+b.name.size+(b.lines.map fun x=>Pl.wln x+1).sum+2412;omega) s
    have h6:s.length*2412≤60*2412:=Nat.mul_le_mul_right _ BT;exact⟨by simp only[if_true];omega,by simp only[if_true,List.length_map];omega⟩
  exact⟨DJ hf.1,hf.1,by omega⟩
 ·have hf:Pl.wsh (Pl.om s)≤1048576∧(Pl.om s).length≤70:=by
   unfold Pl.om;cases hv:Pl.bH s
   ·exact⟨by simp[Pl.wsh],by simp⟩
   ·have hm:=sJ Pl.Ep 0 (fun b=>by
     have h3:=kx (fun x=>Pl.wln x+1) (Pl.xW b.kind) b.lines;show b.kind.size+b.name.size+((b.lines.filter (Pl.xW b.kind)).map fun x=>Pl.wln x+1).sum≤b.kind.size+b.name.size+(b.lines.map fun x=>Pl.wln x+1).sum+0;omega) s
    exact⟨by simp only[if_true];omega,by simp only[if_true,List.length_map];omega⟩
  exact⟨DJ hf.1,hf.1,by omega⟩
def sK (P:Program) (f:Nat):Prop:=∀ (R:Nat) (v:Value) (len p:Nat) (W0:World) (s:List Pl.Bl) (sv:Value),Rd W0 R v len p→p≤300000000000→Raw W0 bu [bD s] [sv]→SdB 66 40 s→
 Calls P f #[.pointer (some ⟨R,0,none⟩),.agg #[sv]] W0 fun e W'=>(∃ s' MX,e=.returned (.agg #[MX])∧ki W' W0.heap.size s' MX∧Sw s')∧Fr R W0 W'∧∃ q,q≤p+1000000∧Rd W' R v len q
end Go.Proofs.YtopjjknojnfhmaaGreatDoor
