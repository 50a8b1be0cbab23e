import Derived.Test.YtgiglpnaekbegaaGreatDoorEBy
namespace Go.Proofs.YtgiglpnaekbegaaGreatDoor
set_option maxRecDepth 8000
set_option maxHeartbeats 40000000
open Go.RowKit Go.Deep
theorem Tryz.gP:Tryz.prog.underlying 38=some (.slice 9):=by kernel_rfl
theorem Tryz.bI:(Tryz.prog.info? 9).map (fun i=>(i.zero,i.size,i.bytes))=some (some (.string {data:=#[]}),1,16):=by kernel_rfl
def txV (l:List ByteArray):List Value:=l.map .string
def txD (l:List ByteArray):List Dt:=l.map .s
def TxR (W:World) (lo:Nat) (v:Value) (l:List ByteArray):Prop:=W.ownsRow lo 9 1 v l.length (txV l)
theorem TxR.later {W W':World} {lo:Nat} {v:Value} {l:List ByteArray} (h:TxR W lo v l) (hb:Bel W W'):TxR W' lo v l:=cD h hb
theorem TxR.nil (W:World) (lo:Nat):TxR W lo (.slice none 0 0) []:=World.ownsRow_nil ..
theorem TxR.emp (W:World) (lo:Nat) (h:lo≤W.heap.size):TxR (W.alloc (.cells #[] 9)) lo (.slice (some ⟨W.heap.size,0,none⟩) 0 0) []:=World.ownsRow_made W #[] 0 h (by decide) rfl
theorem TxR.shape {W:World} {lo:Nat} {v:Value} {l:List ByteArray} (h:TxR W lo v l):∃ a c,v=.slice a l.length c:=by
 rcases h.2 with⟨e,h0⟩|⟨g,cap,_,e,_⟩
 ·exact⟨none,0,by rw[e,h0]⟩
 ·exact⟨_,_,e⟩
theorem TxR.below {W w':World} {a:World} {lo:Nat} {v:Value} {l:List ByteArray} (h:TxR W lo v l) (hb:Bel a W) (hg:W.grownBy w' v.ownBlock) (cX:a.heap.size≤lo):Bel a w':=
 Below.grown hb hg hb.size fun q hq=>by have:=(World.ownsRow.lt h q hq).1;omega
theorem BT (a b:List ByteArray):txV (a++b)=txV a++txV b:=Yr
theorem Bg (a:List ByteArray):(txV a).length=a.length:=XT ..
theorem Mf (W:World) (tt:Bool):∀ l:List ByteArray,Rep W tt (bF l.length [.s]) [] (txD l) (txV l)
 |[]=> .nil
 |x::l=>by rw[Xm,dk];exact .s x (Mf W tt l)
theorem TxR.gr {W:World} {lo:Nat} {v:Value} {l:List ByteArray} (h:TxR W lo v l):Gr W lo 9 [.s] v l.length [] (txD l) (txV l):=⟨h,Mf W false l,XL,by simp⟩
theorem TxR.done {W:World} {lo:Nat} {v:Value} {l:List ByteArray} (h:TxR W lo v l):∃ F,Rep W false [.row 9 [.s]] F [.row l.length (txD l)] [v]∧F.Nodup∧∀ b∈F,lo≤b:=h.gr.done
theorem qj {w:World} {ops:Array Oper} {rest:List Oper} {o:Oper} {a:Act} {Q:Exit→Act→World→Prop} (hgd:o.guard=none) (s x:Operand)
  (ho:o.op=.call {callee:=.builtin .append,args:=#[s,x],argTypes:=#[38,38]}) (lo:Nat) (v:Value) (l:List ByteArray) (hs:a.eval s=v) (dN:TxR w lo v l)
  (B m c:Nat) (news:List ByteArray) (hx:a.eval x=.slice (some ⟨B,0,none⟩) m c) (hl:news.length=m) (hnews:∀ j u,(txV news)[j]? =some u→w.cell? ((⟨B,0,none⟩:Addr).add j)=some u)
  (hm:0<m) (DU:l.length+m≤1073741824) (cX:lo≤w.heap.size)
  (h:∀ g cap w',TxR w' lo (.slice (some ⟨g,0,none⟩) (l.length+m) cap) (l++news)→w.grownBy w' v.ownBlock→wpList Tryz.prog ops Q rest (a.put o.dst (.slice (some ⟨g,0,none⟩) (l.length+m) cap)) w'):wpList Tryz.prog ops Q (o::rest) a w:=by
 obtain⟨i0,hi,dp,eV,kD⟩:=i6 Tryz.bI;refine wpList_append_lies w hgd s x 38 ho lo 9 i0 _ 1 16 Tryz.gP hi dp eV kD rfl (by omega) v l.length (txV l) hs dN ⟨B,0,none⟩ m c (txV news) hx (by rw[Bg,hl,Nat.mul_one]) hnews
  (fun u hu=>by obtain⟨b,_,rfl⟩:=YA.1 hu;rfl) hm (by unfold maxLen;omega) (by omega) cX _ rfl fun g cap w' q1 q2 _ _=>h g cap w' ?_ q2
 unfold TxR;rw[BT,At,hl];exact q1
theorem NS {w:World} {lo:Nat} {v:Value} {l:List ByteArray} (dN:TxR w lo v l) (ty:TypeId)
  (B m c:Nat) (news:List ByteArray) (hl:news.length=m) (hnews:∀ j u,(txV news)[j]? =some u→w.cell? ((⟨B,0,none⟩:Addr).add j)=some u)
  (hm:0<m) (DU:l.length+m≤1073741824) (cX:lo≤w.heap.size):
  ∃ g cap w',(Builtin.append_ #[38,38] ty #[v,.slice (some ⟨B,0,none⟩) m c]).run Tryz.prog w=.ok (.slice (some ⟨g,0,none⟩) (l.length+m) cap) w'∧
   TxR w' lo (.slice (some ⟨g,0,none⟩) (l.length+m) cap) (l++news)∧w.grownBy w' v.ownBlock:=by
 obtain⟨i0,hi,dp,eV,kD⟩:=i6 Tryz.bI;obtain⟨g,cap,w',h1,h2,h3,_⟩:=run_append_lies (P:=Tryz.prog) w 38 ty lo 9 i0 _ 1 16 Tryz.gP hi dp eV kD rfl (by omega) v l.length (txV l) dN ⟨B,0,none⟩ m c (txV news) (by rw[Bg,hl,Nat.mul_one]) hnews
  (fun u hu=>by obtain⟨b,_,rfl⟩:=YA.1 hu;rfl) hm (by unfold maxLen;omega) (by omega) cX _ rfl
 refine⟨g,cap,w',h1, ?_,h3⟩;unfold TxR;rw[BT,At,hl];exact h2
theorem aA.grow {W W':World} {row:Option Nat} {p:Nat} {u:TypeId} {cs:List Value} (h:aA W p u cs) (hg:W.grownBy W' row) (hn:row≠some p):aA W' p u cs:=by
 have hb:W'.heap[p]? =W.heap[p]? :=hg.block p h.own.lt (fun e=>hn e.symm);obtain⟨MM,h1,h2⟩:=h.own;exact⟨⟨MM,hb.trans h1,h2⟩,fF h.at_ fun j _=>Yg (a:=⟨p,0+j,none⟩) hb⟩
theorem fV {S:Nat→Prop} {W W':World} {lo e size n:Nat} {v:Value} {xs:List Value} (h:W.ownsRow lo e size v n xs) (hm:Marks S W W') (hS:∀ b,lo≤b→¬ S b):W'.ownsRow lo e size v n xs:=by
 refine⟨h.1,h.2.imp id ?_⟩;rintro⟨g,cap,cur,h1,h2,h3,h4⟩;exact⟨g,cap,cur,h1,h2,(hm.block g (Xh.1 h3).1 (hS g h2)).trans h3,h4⟩
theorem ps {W:World} {lo e size n p o:Nat} {v:Value} {xs:List Value} (h:W.ownsRow lo e size v n xs) (hp:p<lo) (cs:List Value):(W.setCells p o cs).ownsRow lo e size v n xs:=
 fV h (bf (S:=fun b=>b=p) rfl cs o W) fun b hb e=>by omega
theorem xP {α β:Type} (f:α→β):∀ l:List α,l.map f=l.flatMap fun x=> [f x]
 |[]=>rfl
 |x::l=>by rw[XS,XP,xP f l];rfl
theorem nI {α:Type} (d:α) (f:α→Dt) (l:List α) (k:Nat) (h:k<l.length):el 1 k (l.map f)=[f (l.getD k d)]:=by
 have e:l.map f=l.flatMap fun x=> [f x]:=xP f l;rw[e];exact jT d (fun x=> [f x]) 1 (fun _=>rfl) l k h
end Go.Proofs.YtgiglpnaekbegaaGreatDoor
