import Derived.WalkKit
import Derived.Test.YtbiokpmdghmgcaaGreatProg
import Derived.RowKit
import Derived.WalkSpells
import Derived.WalkLawsBesides
import Derived.BigQuiet
import Derived.Deep.QuietTactic
import Derived.Deep.OwnRows
import Derived.Test.YtbiokpmdghmgcaaGreatMap
namespace Go.Proofs.YtbiokpmdghmgcaaGreat.Pl
def cK (c:UInt8):Bool:=(decide (97≤c.toNat)&&decide (c.toNat≤122))||(decide (48≤c.toNat)&&decide (c.toNat≤57))||decide (c.toNat=45)
def nameBytes (s:ByteArray):Bool:=s.data.toList.all cK
def aq (s:ByteArray):Bool:=decide (1≤s.size)&&decide (s.size≤16)&&nameBytes s
def digit (c:UInt8):Bool:=decide (48≤c.toNat)&&decide (c.toNat≤57)
def lead (s:ByteArray):Bool:=decide (1<s.size)&&(s.data.toList.headD 0==48)
def dU (s:ByteArray):Bool:=decide (1≤s.size)&&decide (s.size≤7)&& !lead s&&s.data.toList.all digit
def cO (l:List UInt8):Int:=l.foldl (fun n c=>n*10+((c.toNat:Int) - 48)) 0
def has (ss:List ByteArray) (s:ByteArray):Bool:=ss.any (fun x=>x.toList==s.toList)
def fl (c:UInt8):Bool:=decide (33≤c.toNat)&&decide (c.toNat≤126)
def eC (s:ByteArray):Bool:=s.data.toList.all fl
def fits (kind least most:Int) (ss:List ByteArray) (v:ByteArray):Bool:=
 if kind=1 then dU v&&decide (least≤cO v.data.toList)&&decide (cO v.data.toList≤most)
 else if kind=2 then decide (1≤v.size)&&has ss v
 else if kind=3 then decide (1≤v.size)&&eC v&&decide (least≤(v.size:Int))&&decide ((v.size:Int)≤most)
 else if kind=4 then aq v
 else false
theorem qk (s:ByteArray) (k:Nat) (h:k<s.size):s.data.toList.take (k+1)=s.data.toList.take k++[s[k]]:=by
 rw[List.take_succ_eq_append_getElem (by simpa using h)];rfl
theorem gR (p:UInt8→Bool) (s:ByteArray) (k:Nat) (h:k<s.size):(s.data.toList.take (k+1)).all p=((s.data.toList.take k).all p&&p s[k]):=by
 rw[qk s k h];simp
theorem jy (p:UInt8→Bool) (s:ByteArray) (k:Nat) (h:s.size≤k):(s.data.toList.take k).all p=s.data.toList.all p:=by
 rw[List.take_of_length_le (by simpa using h)]
theorem all_false (p:UInt8→Bool) (s:ByteArray) (k:Nat) (h:k<s.size) (hp:p s[k]=false):s.data.toList.all p=false:=by
 rw[List.all_eq_false];exact⟨s[k],List.getElem_mem (by simpa using h),by simp[hp]⟩
theorem sk (ss:List ByteArray) (s:ByteArray) (k:Nat) (h:k<ss.length):has (ss.take (k+1)) s=(has (ss.take k) s||(ss[k].toList==s.toList)):=by
 unfold has;rw[List.take_succ_eq_append_getElem h,List.any_append];simp only[List.any_cons,List.any_nil,Bool.or_false]
theorem rL (ss:List ByteArray) (s:ByteArray) (k:Nat) (h:k<ss.length) (hp:(ss[k].toList==s.toList)=true):has ss s=true:=by
 simp only[has,List.any_eq_true];exact⟨ss[k],List.getElem_mem h,hp⟩
theorem qp (ss:List ByteArray) (s:ByteArray) (k:Nat) (h:ss.length≤k):has (ss.take k) s=has ss s:=by
 rw[List.take_of_length_le h]
theorem ae {a b:Bool} (h:a=b):Ending.returned (.bool a)=.returned (.bool b):=by rw[h]
theorem aP {k:IntKind} {a b:Int} (h:a=b):Ending.returned (.int k a)=.returned (.int k b):=by rw[h]
end Go.Proofs.YtbiokpmdghmgcaaGreat.Pl
namespace Go.Proofs.YtbiokpmdghmgcaaGreat
set_option maxHeartbeats 40000000
open Go.RowKit
theorem qa (b off cap:Nat) (ss:List ByteArray) (s:ByteArray) (w:World) (hl:ss.length≤maxLen)
  (hc:∀ i,i<ss.length→w.cell? ⟨b,off+i,none⟩=some (.string (ss.getD i ByteArray.empty))):
  Calls Tryz.prog 164 #[.slice (some ⟨b,off,none⟩) ss.length cap,.string s] w fun e w'=>e=.returned (.bool (Pl.has ss s))∧w=w':=by
 unfold maxLen at hl;go_enter Tryz.func164,Tryz.ntmps164
 go_wp2;go_loop [5] (fun i=>∃ k:Nat,k≤ss.length∧i=.int .i64 k∧Pl.has (ss.take k) s=false) (fun i=>ss.length - (intOf i).toNat)
 case atStart=>exact⟨0,nz,rfl,rfl⟩
 case round=>
  obtain⟨k,hk,rfl,aw⟩:=hrel;have HA:=hid aw;clear aw;by_cases av:k<ss.length
  ·have xi:=hc k av;have HT:Hid ((ss[k].toList==s.toList)=true→Pl.has ss s=true):=fun h=>Pl.rL ss s k av h;have HN:Hid ((ss[k].toList==s.toList)=false→Pl.has (ss.take (k+1)) s=false):=fun h=>by rw[Pl.sk ss s k av,HA.out,h];rfl
   cases hq:(ss[k].toList==s.toList)
   ·have HQ:=HN.out hq;have BE:=hid HQ;clear HQ HT HN;go_wp2;go_round
    case rel=>exact⟨k+1,by omega,by go_num,BE.out⟩
    case measure=>simp[intOf];omega
   ·have HQ:=HT.out hq;have BE:=hid HQ;clear HQ HT HN;go_wp2;go_ret;exact⟨Pl.ae BE.out.symm,rfl⟩
  ·have BE:Hid (Pl.has ss s=false):=by show _=_;rw[← Pl.qp ss s k (by omega)];exact HA.out
   go_wp2;go_ret;exact⟨Pl.ae BE.out.symm,rfl⟩
theorem xI (b off cap:Nat) (ss:List ByteArray) (s:ByteArray) (w:World) (hl:ss.length≤maxLen)
  (hc:∀ i,i<ss.length→w.cell? ⟨b,off+i,none⟩=some (.string (ss.getD i ByteArray.empty))):
  Calls Tryz.prog 243 #[.slice (some ⟨b,off,none⟩) ss.length cap,.string s] w fun e w'=>(∃ r:Int,e=.returned (.int .i64 r)∧decide (0≤r)=Pl.has ss s)∧w=w':=by
 unfold maxLen at hl;go_enter Tryz.func243,Tryz.ntmps243
 go_wp2;go_loop [8] (fun i=>∃ k:Nat,k≤ss.length∧i=.int .i64 k∧Pl.has (ss.take k) s=false) (fun i=>ss.length - (intOf i).toNat)
 case atStart=>exact⟨0,nz,rfl,rfl⟩
 case round=>
  obtain⟨k,hk,rfl,aw⟩:=hrel;have HA:=hid aw;clear aw;by_cases av:k<ss.length
  ·have xi:=hc k av;have HT:Hid ((s.toList==ss[k].toList)=true→Pl.has ss s=true):=fun h=>Pl.rL ss s k av (by rw[beq_iff_eq]at h ⊢;exact h.symm);have HN:Hid ((s.toList==ss[k].toList)=false→Pl.has (ss.take (k+1)) s=false):=fun h=>by
    have h':(ss[k].toList==s.toList)=false:=by rw[beq_eq_false_iff_ne]at h ⊢;exact fun e=>h e.symm
    rw[Pl.sk ss s k av,HA.out,h'];rfl
   cases hq:(s.toList==ss[k].toList)
   ·have HQ:=HN.out hq;have BE:=hid HQ;clear HQ HT HN;go_wp2;go_round
    case rel=>exact⟨k+1,by omega,by go_num,BE.out⟩
    case measure=>simp[intOf];omega
   ·have HQ:=HT.out hq;have BE:=hid HQ;clear HQ HT HN;go_wp2;go_ret;exact⟨⟨_,rfl,by rw[BE.out];simp⟩,rfl⟩
  ·have BE:Hid (Pl.has ss s=false):=by show _=_;rw[← Pl.qp ss s k (by omega)];exact HA.out
   go_wp2;go_ret;exact⟨⟨_,rfl,by rw[BE.out];simp⟩,rfl⟩
theorem rk (b off cap:Nat) (ss:List ByteArray) (s:ByteArray) (w:World) (hl:ss.length≤maxLen)
  (hc:∀ i,i<ss.length→w.cell? ⟨b,off+i,none⟩=some (.string (ss.getD i ByteArray.empty))):
  Calls Tryz.prog 242 #[.slice (some ⟨b,off,none⟩) ss.length cap,.string s] w fun e w'=>e=.returned (.bool (Pl.has ss s))∧w=w':=by
 have HX:Hid (∀ W,W=w→Calls Tryz.prog 243 #[.slice (some ⟨b,off,none⟩) ss.length cap,.string s] W fun e w'=>(∃ r:Int,e=.returned (.int .i64 r)∧decide (0≤r)=Pl.has ss s)∧W=w'):=by
  intro W e;subst e;exact xI b off cap ss s W hl hc
 clear hc;unfold maxLen at hl;go_enter Tryz.func242,Tryz.ntmps242
 go_wp2_with fail
 refine(HX.out _ rfl).mono ?_;rintro e w' ⟨⟨r,rfl,hr⟩,rfl⟩;have HR:=hid hr;clear hr;go_wp2;go_ret;exact⟨Pl.ae HR.out,rfl⟩
end Go.Proofs.YtbiokpmdghmgcaaGreat
namespace Go.Proofs.YtbiokpmdghmgcaaGreat
set_option maxHeartbeats 40000000
open Go.RowKit Go.Deep
theorem al {a w:World} (h:Bel a w) (n:Nat):Bel a (w.drewN n):=⟨h.os,h.tape,h.output,h.size,h.block⟩
theorem Tryz.si:(Tryz.prog.info? 9).map (fun i=>(i.zero,i.size,i.bytes))=some (some (.string ByteArray.empty),1,16):=by kernel_rfl
theorem Tryz.pK:Tryz.prog.underlying 94=some (.slice 9):=by kernel_rfl
theorem n8 (n:Nat) (h:n≤1048576) (W:World):
  (Instr.makeSlice 94 (.int .i64 (n:Int)) (.int .i64 (n:Int))).run Tryz.prog W=.ok (.slice (some ⟨W.heap.size,0,none⟩) n n) (W.alloc (.cells (madeCells #[.string ByteArray.empty] n) 9)):=
 run_make_row' 94 9 (.string ByteArray.empty) 16 Tryz.pK Tryz.si rfl .i64 .i64 n (by omega) (by omega) W
theorem yB (cs:Array Value) (ss:List ByteArray) (k:Nat) (s:ByteArray) (hk:k<ss.length) (hs:ss.getD k ByteArray.empty=s) (eU:cs.size=ss.length)
  (h:∀ j,j<k→cs[j]? =some (.string (ss.getD j ByteArray.empty))):
  (cs.setIfInBounds k (.string s)).size=ss.length∧∀ j,j<k+1→(cs.setIfInBounds k (.string s))[j]? =some (.string (ss.getD j ByteArray.empty)):=by
 refine⟨by simpa using eU,fun j hj=> ?_⟩;rw[Array.getElem?_setIfInBounds];by_cases e:k=j
 ·subst e;rw[if_pos rfl,if_pos (by omega),hs]
 ·rw[if_neg e];exact h j (by omega)
theorem sq (b off cap:Nat) (ss:List ByteArray) (w:World) (hb:b<w.heap.size) (hl:ss.length≤1048576)
  (hc:∀ i,i<ss.length→w.cell? ⟨b,off+i,none⟩=some (.string (ss.getD i ByteArray.empty))):
  Calls Tryz.prog 129 #[.slice (some ⟨b,off,none⟩) ss.length cap] w fun e w'=>∃ cs:Array Value,e=.returned (.slice (some ⟨w.heap.size,0,none⟩) ss.length ss.length)∧w'=w.alloc (.cells cs 9)∧cs.size=ss.length∧
   ∀ j,j<ss.length→cs[j]? =some (.string (ss.getD j ByteArray.empty)):=by
 have iL:=n8 ss.length hl;have HC:Hid (∀ o i,i<ss.length→(w.alloc o).cell? ⟨b,off+i,none⟩=some (.string (ss.getD i ByteArray.empty))):=by
  intro o i hi;rw[← hc i hi];exact(ab br o:Bel w _).cell (p:=⟨b,off+i,none⟩) hb
 clear hc;go_enter Tryz.func129,Tryz.ntmps129
 go_wp2;go_loopw [4] (fun i wr=>∃ (k:Nat) (cs:Array Value),k≤ss.length∧i=.int .i64 k∧wr=w.alloc (.cells cs 9)∧cs.size=ss.length∧∀ j,j<k→cs[j]? =some (.string (ss.getD j ByteArray.empty))) (fun i _=>ss.length - (intOf i).toNat)
 case atStart=>exact⟨0,_,nz,rfl,rfl,size_madeCells _ _,fun j hj=>absurd hj (Nat.not_lt_zero j)⟩
 case round=>
  obtain⟨k,cs,hk,rfl,rfl,eU,aw⟩:=hrel;have HA:=hid (And.intro eU aw);clear aw eU;by_cases av:k<ss.length
  ·have xi:=HC.out (.cells cs 9) k av;have hold:∃ v,cs[k]? =some v:=⟨_,Array.getElem?_eq_getElem (by rw[HA.out.1];exact av)⟩
   obtain⟨v,hv⟩:=hold;have HP:Hid ((cs.setIfInBounds k (.string ss[k])).size=ss.length∧∀ j,j<k+1→(cs.setIfInBounds k (.string ss[k]))[j]? =some (.string (ss.getD j ByteArray.empty))):=
    yB cs ss k ss[k] av (by simp[av]) HA.out.1 HA.out.2
   go_wp2;go_roundw
   case rel=>exact⟨k+1,_,by omega,by go_num,rfl,HP.out.1,HP.out.2⟩
   case measure=>simp[intOf];omega
  ·obtain rfl:k=ss.length:=by omega
   go_wp2;go_ret;exact⟨cs,rfl,rfl,HA.out.1,HA.out.2⟩
theorem sD (a:Option Addr) (cap:Nat) (w:World):
  Calls Tryz.prog 129 #[.slice a 0 cap] w fun e w'=>e=.returned (.slice (some ⟨w.heap.size,0,none⟩) 0 0)∧w'=w.alloc (.cells #[] 9):=by
 have iL:∀ W:World,(Instr.makeSlice 94 (.int .i64 0) (.int .i64 0)).run Tryz.prog W=.ok (.slice (some ⟨W.heap.size,0,none⟩) 0 0) (W.alloc (.cells #[] 9)):=by
  intro W;have h:=n8 0 (by omega) W;have h0:madeCells #[.string ByteArray.empty] 0=#[]:=by simp[madeCells]
  rw[h0]at h;exact h
 go_enter Tryz.func129,Tryz.ntmps129
 go_wp2;refine wp_loop_rounds 1 ?_;rw[rounds_succ];go_wp2;go_ret;exact⟨rfl,rfl⟩
def fC (n:Nat) (left r:Int):Prop:= -1≤r∧r≤left∧(0≤r→(n:Int)≤left)
theorem sl (b off cap:Nat) (ss:List ByteArray) (left:Int) (w:World) (h0:0≤left) (h1:left≤1048576) (hl:ss.length≤maxLen)
  (hs:∀ i,i<ss.length→(ss.getD i ByteArray.empty).size≤maxLen)
  (hc:∀ i,i<ss.length→w.cell? ⟨b,off+i,none⟩=some (.string (ss.getD i ByteArray.empty))):
  Calls Tryz.prog 113 #[.slice (some ⟨b,off,none⟩) ss.length cap,.int .i64 left] w fun e w'=>(∃ r:Int,e=.returned (.int .i64 r)∧fC ss.length left r)∧w=w':=by
 unfold maxLen at hl;by_cases hneg:left<(ss.length:Int)
 ·go_enter Tryz.func113,Tryz.ntmps113
  go_wp2;go_ret;exact⟨⟨_,rfl,by unfold fC;omega⟩,rfl⟩
 ·go_enter Tryz.func113,Tryz.ntmps113
  go_wp2;go_loop [1,5] (fun l i=>∃ (k:Nat) (r:Int),k≤ss.length∧i=.int .i64 k∧l=.int .i64 r∧0≤r∧r≤left) (fun _ i=>ss.length - (intOf i).toNat)
  case atStart=>exact⟨0,_,nz,rfl,rfl,by omega,by omega⟩
  case round=>
   obtain⟨k,r,hk,rfl,rfl,r0,r1⟩:=hrel;by_cases av:k<ss.length
   ·have xi:=hc k av;have hsk:=hs k av;have e:ss.getD k ByteArray.empty=ss[k]:=by simp[av]
    rw[e]at xi hsk;unfold maxLen at hsk;clear e hs hc;by_cases hq:r<(ss[k].size:Int)
    ·go_wp2;go_ret;exact⟨⟨_,rfl,by unfold fC;omega⟩,rfl⟩
    ·go_wp2;go_round
     case rel=>exact⟨k+1,_,by omega,by go_num,rfl,by omega,by omega⟩
     case measure=>simp[intOf];omega
   ·go_wp2;go_ret;exact⟨⟨_,rfl,by unfold fC;omega⟩,rfl⟩
theorem sS (a:Option Addr) (cap:Nat) (left:Int) (w:World) (h0:0≤left) (h1:left≤1048576):
  Calls Tryz.prog 113 #[.slice a 0 cap,.int .i64 left] w fun e w'=>(∃ r:Int,e=.returned (.int .i64 r)∧fC 0 left r)∧w=w':=by
 go_enter Tryz.func113,Tryz.ntmps113
 go_wp2;refine wp_loop_rounds 1 ?_;rw[rounds_succ];go_wp2;go_ret;exact⟨⟨_,rfl,by unfold fC;omega⟩,rfl⟩
theorem mU (b off cap b' off' yX:Nat) (ss:List ByteArray) (w:World) (hl:ss.length≤maxLen)
  (hc:∀ i,i<ss.length→w.cell? ⟨b,off+i,none⟩=some (.string (ss.getD i ByteArray.empty)))
  (EC:∀ i,i<ss.length→w.cell? ⟨b',off'+i,none⟩=some (.string (ss.getD i ByteArray.empty))):
  Calls Tryz.prog 152 #[.slice (some ⟨b,off,none⟩) ss.length cap,.slice (some ⟨b',off',none⟩) ss.length yX] w fun e w'=>e=.returned (.bool true)∧Bel w w':=by
 unfold maxLen at hl;go_enter Tryz.func152,Tryz.ntmps152
 go_wp2;go_loopw [5] (fun i wr=>∃ k:Nat,k≤ss.length∧i=.int .i64 k∧∃ n,wr=w.drewN n) (fun i _=>ss.length - (intOf i).toNat)
 case atStart=>exact⟨0,nz,rfl,0,rfl⟩
 case round=>
  obtain⟨k,hk,rfl,n,rfl⟩:=hrel;by_cases av:k<ss.length
  ·have xi:w.cell? ⟨b,off+k,none⟩=some (.string ss[k]):=by have:=hc k av;simpa [av]using this
   have MG:w.cell? ⟨b',off'+k,none⟩=some (.string ss[k]):=by have:=EC k av;simpa [av]using this
   clear hc EC;go_wp2;go_quiet (fail)
   go_wp2;go_roundw
   case rel=>exact⟨k+1,by omega,by go_num,_,rfl⟩
   case measure=>simp[intOf];omega
  ·go_wp2;go_ret;exact⟨rfl,al br n⟩
def bU (w:World) (vs:Value) (ss:List ByteArray):Prop:=
 (∃ a cap,vs=.slice a 0 cap∧ss=[])∨∃ b off cap,vs=.slice (some ⟨b,off,none⟩) ss.length cap∧b<w.heap.size∧(∀ i,i<ss.length→(ss.getD i ByteArray.empty).size≤maxLen)∧ss.length≤maxLen∧
  ∀ i,i<ss.length→w.cell? ⟨b,off+i,none⟩=some (.string (ss.getD i ByteArray.empty))
theorem bU.later {w w':World} {vs:Value} {ss:List ByteArray} (h:bU w vs ss) (hb:Bel w w'):bU w' vs ss:=by
 rcases h with h|⟨b,off,cap,rfl,h1,h2,h3,h4⟩
 ·exact Or.inl h
 ·exact Or.inr ⟨b,off,cap,rfl,lo h1 hb.size,h2,h3,fun i hi=>by rw[← h4 i hi];exact hb.cell (p:=⟨b,off+i,none⟩) h1⟩
theorem kt (vs:Value) (ss:List ByteArray) (left:Int) (w:World) (h0:0≤left) (h1:left≤1048576) (h:bU w vs ss):
  Calls Tryz.prog 113 #[vs,.int .i64 left] w fun e w'=>(∃ r:Int,e=.returned (.int .i64 r)∧fC ss.length left r)∧w=w':=by
 rcases h with⟨a,cap,rfl,rfl⟩|⟨b,off,cap,rfl,_,h2,h3,h4⟩
 ·exact sS a cap left w h0 h1
 ·exact sl b off cap ss left w h0 h1 h3 h2 h4
theorem ku (vs:Value) (ss:List ByteArray) (w:World) (hl:ss.length≤1048576) (h:bU w vs ss):
  Calls Tryz.prog 129 #[vs] w fun e w'=>∃ cs:Array Value,e=.returned (.slice (some ⟨w.heap.size,0,none⟩) ss.length ss.length)∧w'=w.alloc (.cells cs 9)∧cs.size=ss.length∧
   ∀ j,j<ss.length→cs[j]? =some (.string (ss.getD j ByteArray.empty)):=by
 rcases h with⟨a,cap,rfl,rfl⟩|⟨b,off,cap,rfl,h1,h2,h3,h4⟩
 ·exact(sD a cap w).mono fun e w' h=>⟨#[],h.1,h.2,rfl,fun j hj=>absurd hj (Nat.not_lt_zero j)⟩
 ·exact sq b off cap ss w h1 hl h4
theorem De (nm:ByteArray) (kind least most:Int) (vs:Value) (to:ByteArray) (role:Int) (must fixed:Bool) (de we:ByteArray) (w:World) (ss:List ByteArray) (left:Int) (h0:0≤left) (h1:left≤1048576) (h:bU w vs ss)
  (hn:nm.size≤maxLen) (ht:to.size≤maxLen) (hd:de.size≤maxLen) (hw:we.size≤maxLen):
  Calls Tryz.prog 159 #[.agg #[.string nm,.int .i64 kind,.int .i64 least,.int .i64 most,vs,.string to,.int .i64 role,.bool must,.bool fixed,.string de,.string we],.int .i64 left] w fun e w'=>(∃ r:Int,e=.returned (.int .i64 r)∧fC ss.length left r)∧Bel w w':=by
 unfold maxLen at hn ht hd hw;have HX:Hid (∀ (o:Obj) (l:Int),0≤l→l≤1048576→Calls Tryz.prog 113 #[vs,.int .i64 l] (w.alloc o) fun e w'=>(∃ r:Int,e=.returned (.int .i64 r)∧fC ss.length l r)∧(w.alloc o)=w'):=by
  intro o l l0 l1;exact kt vs ss l _ l0 l1 (h.later (ab br o))
 clear h;by_cases c1:left<(nm.size:Int)
 ·go_enter Tryz.func159,Tryz.ntmps159
  go_wp2;go_ret;exact⟨⟨_,rfl,by unfold fC;omega⟩,ab br _⟩
 ·go_enter Tryz.func159,Tryz.ntmps159
  go_wp2_with fail
  refine(HX.out _ _ (by omega) (by omega)).mono ?_;rintro e w' ⟨⟨r,rfl,hr⟩,rfl⟩;have HR:=hid hr;have Mc: -1≤r:=hr.1;have ES:r≤left - nm.size:=hr.2.1;clear hr;by_cases c2:r<0
  ·go_wp2;go_ret;exact⟨⟨_,rfl,by unfold fC;omega⟩,ab br _⟩
  ·have HS:Hid ((ss.length:Int)≤left):=by have:=HR.out.2.2 (by omega);show (ss.length:Int)≤left;omega
   by_cases c3:r<(to.size:Int)
   ·go_wp2;go_ret;exact⟨⟨_,rfl,by unfold fC;omega⟩,ab br _⟩
   by_cases c4:r - to.size<(de.size:Int)
   ·go_wp2;go_ret;exact⟨⟨_,rfl,by unfold fC;omega⟩,ab br _⟩
   by_cases c5:r - to.size - de.size<(we.size:Int)
   ·go_wp2;go_ret;exact⟨⟨_,rfl,by unfold fC;omega⟩,ab br _⟩
   ·go_wp2;go_ret;exact⟨⟨_,rfl,by have:=HS.out;unfold fC;omega⟩,ab br _⟩
theorem CR (nm:ByteArray) (kind least most:Int) (b b':Nat) (to:ByteArray) (role:Int) (must fixed:Bool) (de we:ByteArray) (ss:List ByteArray) (w:World) (hb:b<w.heap.size) (wZ:b'<w.heap.size) (hl:ss.length≤1048576)
  (hc:∀ i,i<ss.length→w.cell? ⟨b,0+i,none⟩=some (.string (ss.getD i ByteArray.empty)))
  (EC:∀ i,i<ss.length→w.cell? ⟨b',0+i,none⟩=some (.string (ss.getD i ByteArray.empty))):
  Calls Tryz.prog 191 #[.agg #[.string nm,.int .i64 kind,.int .i64 least,.int .i64 most,.slice (some ⟨b,0,none⟩) ss.length ss.length,.string to,.int .i64 role,.bool must,.bool fixed,.string de,.string we],.agg #[.string nm,.int .i64 kind,.int .i64 least,.int .i64 most,(.slice (some ⟨b',0,none⟩) ss.length ss.length),.string to,.int .i64 role,.bool must,.bool fixed,.string de,.string we]] w
   fun e w'=>e=.returned (.bool true)∧Bel w w':=by
 have HX:Hid (∀ W,Bel w W→Calls Tryz.prog 152 #[.slice (some ⟨b,0,none⟩) ss.length ss.length,.slice (some ⟨b',0,none⟩) ss.length ss.length] W fun e w'=>e=.returned (.bool true)∧Bel W w'):=by
  intro W hW;refine mU b 0 ss.length b' 0 ss.length ss W (by unfold maxLen;omega) (fun i hi=> ?_) (fun i hi=> ?_)
  ·rw[← hc i hi];exact hW.cell (p:=⟨b,0+i,none⟩) hb
  ·rw[← EC i hi];exact hW.cell (p:=⟨b',0+i,none⟩) wZ
 clear hc EC hb wZ hl;go_enter Tryz.func191,Tryz.ntmps191
 go_wp2_with fail
 have hB:Bel w ((w.alloc (.cells #[.string nm,.int .i64 kind,.int .i64 least,.int .i64 most,.slice (some ⟨b,0,none⟩) ss.length ss.length,.string to,.int .i64 role,.bool must,.bool fixed,.string de,.string we] 122)).alloc (.cells #[.string nm,.int .i64 kind,.int .i64 least,.int .i64 most,.slice (some ⟨b',0,none⟩) ss.length ss.length,.string to,.int .i64 role,.bool must,.bool fixed,.string de,.string we] 122)):=ab (ab br _) _;refine(HX.out _ hB).mono ?_;rintro e w1 ⟨rfl,bl⟩;have aA:=aa hB bl;obtain⟨hcell,KF⟩:(∀ q o,q<w.heap.size+1+1→w1.cell? ⟨q,o,none⟩=((w.alloc (.cells #[.string nm,.int .i64 kind,.int .i64 least,.int .i64 most,.slice (some ⟨b,0,none⟩) ss.length ss.length,.string to,.int .i64 role,.bool must,.bool fixed,.string de,.string we] 122)).alloc (.cells #[.string nm,.int .i64 kind,.int .i64 least,.int .i64 most,.slice (some ⟨b',0,none⟩) ss.length ss.length,.string to,.int .i64 role,.bool must,.bool fixed,.string de,.string we] 122)).cell? ⟨q,o,none⟩)∧True:=
  ⟨fun q o h=>bl.cell (p:=⟨q,o,none⟩) (by simpa using h),trivial⟩
 clear hB bl HX KF;go_wp2;go_ret;exact⟨rfl,aA⟩
end Go.Proofs.YtbiokpmdghmgcaaGreat
