import Derived.Test.YtgiglpnaekbegaaGreatDoorESd
namespace Go.Proofs.YtgiglpnaekbegaaGreatDoor
set_option maxRecDepth 8000
set_option maxHeartbeats 40000000
open Go.RowKit Go.Deep
theorem rC {W:World} {p:Nat} {x:Obj} (h:W.heap[p]? =some x):p<W.heap.size:=(Xh.1 h).1
structure Frm (S:Nat→Prop) (w w':World):Prop where
 os:w'.os=w.os
 tape:w'.tape=w.tape
 output:w'.output=w.output
 size:w.heap.size≤w'.heap.size
 block:∀ p,p<w.heap.size→¬ S p→w'.heap[p]? =w.heap[p]?
theorem Frm.trans {S:Nat→Prop} {a b c:World} (h:Frm S a b) (k:Frm S b c):Frm S a c:=
 ⟨k.os.trans h.os,k.tape.trans h.tape,k.output.trans h.output,Xg h.size k.size,fun p hp hn=>(k.block p (zL hp h.size) hn).trans (h.block p hp hn)⟩
theorem Marks.frm {S T:Nat→Prop} {a b:World} (h:Marks S a b) (hS:∀ p,S p→T p):Frm T a b:=⟨h.os,h.tape,h.output,h.size,fun p hp hn=>h.block p hp (fun q=>hn (hS p q))⟩
theorem Frm.bB {S:Nat→Prop} {a b:World} (h:Bel a b):Frm S a b:=⟨h.os,h.tape,h.output,h.size,fun p hp _=>h.block p hp⟩
theorem Frm.xS {S:Nat→Prop} {a b:World} {row:Option Nat} (h:a.grownBy b row) (hr:∀ p,row=some p→S p):Frm S a b:=⟨h.os,h.tape,h.output,h.size,fun p hp hn=>h.block p hp (fun e=>hn (hr p e.symm))⟩
theorem Frm.below {S:Nat→Prop} {x a b:World} (h:Frm S a b) (hS:∀ p,S p→x.heap.size≤p) (hb:Bel x a):Bel x b:=
 ⟨h.os.trans hb.os,h.tape.trans hb.tape,h.output.trans hb.output,Xg hb.size h.size,fun p hp=>(h.block p (zL hp hb.size) (fun q=>by have:=hS p q;omega)).trans (hb.block p hp)⟩
theorem aN.frm {S:Nat→Prop} {a b:World} {p:Nat} {t:TypeId} {m:Nat} (h:aN a p t m) (k:Frm S a b) (hp:¬ S p):aN b p t m:=by
 have hl:=h.lt;obtain⟨c,h1,h2⟩:=h;exact⟨c,(k.block p hl hp).trans h1,h2⟩
theorem aA.frm {S:Nat→Prop} {a b:World} {p:Nat} {t:TypeId} {cs:List Value} (h:aA a p t cs) (k:Frm S a b) (hp:¬ S p):aA b p t cs:=
 ⟨h.own.frm k hp,fF h.at_ fun j _=>Yg (a:=⟨p,0+j,none⟩) (k.block p h.own.lt hp)⟩
theorem Rep.frm {w w':World} {tt:Bool} {ss:List Sh} {F:List Nat} {ds:List Dt} {cs:List Value} {S:Nat→Prop} (h:Rep w tt ss F ds cs) (hb:Frm S w w'):(∀ p∈F,¬ S p)→Rep w' tt ss F ds cs:=by
 induction h with
 |nil=>intro _;exact .nil
 |i n h ih=>intro hS;exact .i n (ih hS)
 |b n h ih=>intro hS;exact .b n (ih hS)
 |s n h ih=>intro hS;exact .s n (ih hS)
 |emp t sh a ht h ih=>intro hS;exact .emp t sh a ht (ih hS)
 |row t sh p o n c u m vs es G ho hm ht hn hr he h ih1 ih=>
  intro hS;refine .row t sh p o n c u m vs es G (ho.frm hb (hS p (by simp))) hm ht hn (fF hr fun j _=> ?_) (ih1 fun q hq=>hS q (by simp[hq])) (ih fun q hq=>hS q (by simp[hq]));exact Yg (a:=⟨p,_,none⟩) (hb.block p ho.lt (hS p (by simp)))
theorem Frm.mono {S T:Nat→Prop} {a b:World} (h:Frm S a b) (hs:∀ p,S p→T p):Frm T a b:=⟨h.os,h.tape,h.output,h.size,fun p hp hn=>h.block p hp fun q=>hn (hs p q)⟩
theorem bT {S:Nat→Prop} {W W':World} {lo:Nat} {e:TypeId} {size:Nat} {v:Value} {n:Nat} {xs:List Value} (h:W.ownsRow lo e size v n xs) (k:Frm S W W') (hn:∀ g,v.ownBlock=some g→¬ S g):W'.ownsRow lo e size v n xs:=by
 refine⟨h.1, ?_⟩;rcases h.2 with q|⟨g,cap,cur,e1,h1,h2,r⟩
 ·exact .inl q
 ·exact .inr ⟨g,cap,cur,e1,h1,(k.block g (rC h2) (hn g (by rw[e1];rfl))).trans h2,r⟩
theorem cC {W:World} {lo:Nat} {e:TypeId} {size:Nat} {v:Value} {n:Nat} {xs:List Value} (h:W.ownsRow lo e size v n xs) {g:Nat} (hg:v.ownBlock=some g):lo≤g∧∃ cur,W.heap[g]? =some (.cells cur e (0,0)):=by
 rcases h.2 with⟨q,_⟩|⟨g',cap,cur,e1,h1,h2,r⟩
 ·rw[q]at hg;cases hg
 ·rw[e1]at hg;injection hg with hg
  have yX:g'=g:=hg;subst yX;exact⟨h1,cur,h2⟩
theorem iy {W:World} {lo lo':Nat} {e e':TypeId} {s s':Nat} {v v':Value} {n n':Nat} {xs xs':List Value} (h:W.ownsRow lo e s v n xs) (h':W.ownsRow lo' e' s' v' n' xs') (dr:e≠e') {g:Nat} (hg:v.ownBlock=some g):v'.ownBlock≠some g:=fun yX=>by
 obtain⟨_,c,h1⟩:=cC h hg;obtain⟨_,c',h2⟩:=cC h' yX;rw[h1]at h2;injection h2 with h2
 injection h2 with _ h2
 exact dr h2
theorem tZ {W:World} {lo:Nat} {t:TypeId} {sh:List Sh} {v:Value} {n:Nat} {es:List Dt} {cs:List Value} {F:List Nat} {tt:Bool} (h:W.ownsRow lo t sh.length v n cs) (hr:Rep W tt (bF n sh) F es cs) (he:n=0→es=[]) (hn:n≤maxLen):Raw W [.row t sh] [.row n es] [v]:=by
 rcases h.2 with⟨q,q2⟩|⟨g,cap,cur,e1,h1,h2,h3,h4,h5,h6⟩
 ·subst q2;rw[q,he rfl];exact .emp _ _ _ _ .nil
 ·rw[e1];refine .row t sh g 0 n cap cs es (rC h2) ⟨hn,h3⟩ ?_ hr.raw .nil;intro j u hj;rw[Xr];rw[← h6,XO]at hj;simp only[World.cell?,h2];split at hj
  ·simpa using hj
  ·cases hj
theorem tH {W:World} {lo:Nat} {t:TypeId} {sh:List Sh} {v:Value} {n:Nat} {es:List Dt} {cs:List Value} {F:List Nat} (h:W.ownsRow lo t sh.length v n cs) (hr:Rep W false (bF n sh) F es cs) (he:n=0→es=[]) (hn:n≤maxLen) (l5:F.Nodup) (cX:∀ b∈F,lo≤b) (hg:∀ g,v.ownBlock=some g→g ∉ F):
  ∃ G,Rep W false [.row t sh] G [.row n es] [v]∧G.Nodup∧(∀ b∈G,lo≤b)∧(∀ b∈G,b∈F∨v.ownBlock=some b):=by
 rcases h.2 with⟨q,q2⟩|⟨g,cap,cur,e1,h1,h2,h3,h4,h5,h6⟩
 ·subst q2;rw[q,he rfl];exact⟨[],.emp _ _ _ rfl .nil,XL,by simp,by simp⟩
 ·have hb:v.ownBlock=some g:=by rw[e1];rfl
  refine⟨g::F++[], ?_, ?_, ?_, ?_⟩
  ·rw[e1];refine Rep.row t sh g 0 n cap t cur.size cs es F ⟨cur,h2,rfl⟩ (by rw[h5,Xr];exact zE) (by intro h;cases h) ⟨hn,h3⟩ ?_ hr .nil;intro j u hj;rw[Xr];rw[← h6,XO]at hj;simp only[World.cell?,h2];split at hj
   ·simpa using hj
   ·cases hj
  ·rw[Xl];exact Yi.2 ⟨hg g hb,l5⟩
  ·intro b gY;rw[Xl]at gY;rcases XD.1 gY with rfl|q
   ·exact h1
   ·exact cX b q
  ·intro b gY;rw[Xl]at gY;rcases XD.1 gY with rfl|q
   ·exact Xk hb
   ·exact No q
theorem BJ {W:World} {tt:Bool} {ss:List Sh} {F:List Nat} {ds:List Dt} {cs:List Value} (h:Rep W tt ss F ds cs):∀ u∈cs,u.oneCell'=true:=by
 induction h with
 |nil=>intro u hu;cases hu
 |i n h ih=>intro u hu;rcases XD.1 hu with rfl|q;exact rfl;exact ih u q
 |b n h ih=>intro u hu;rcases XD.1 hu with rfl|q;exact rfl;exact ih u q
 |s n h ih=>intro u hu;rcases XD.1 hu with rfl|q;exact rfl;exact ih u q
 |emp t sh a ht h ih=>intro u hu;rcases XD.1 hu with rfl|q;exact rfl;exact ih u q
 |row t sh p o n c u' m vs es G ho hm ht hn hr he h ih1 ih=>intro u hu;rcases XD.1 hu with rfl|q;exact rfl;exact ih u q
end Go.Proofs.YtgiglpnaekbegaaGreatDoor
