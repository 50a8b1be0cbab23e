import Derived.Deep.RegionWith
import Derived.StillTailTactics
import Derived.BigQuiet
import Derived.Deep.DeepCutAuto
import Derived.Test.YtbiokpmdghmgcaaGreatMemB
namespace Go.Proofs.YtbiokpmdghmgcaaGreat
set_option maxHeartbeats 40000000
open Go.RowKit Go.Deep
def dw (a b:ByteArray):Int:=if Pl.less a b then -1 else if a.toList==b.toList then 0 else 1
def fq (a b:Int):Int:=if a<b then -1 else if b<a then 1 else 0
def two (a b c d:ByteArray):Int:=if dw a c=0 then dw b d else dw a c
def fA:List Int→Int
 |[]=>0
 |x::l=>if x=0 then fA l else x
def within (x lo hi:Int):Bool:=decide (lo≤x)&&decide (x≤hi)
theorem q8 (l:List Int) (k:Nat) (hk:k<l.length):fA (l.drop k)=if l.getD k 0=0 then fA (l.drop (k+1)) else l.getD k 0:=by
 have e:l.drop k=l[k]::l.drop (k+1):=List.drop_eq_getElem_cons hk;have e2:l.getD k 0=l[k]:=by simp[hk]
 rw[e,e2];rfl
theorem Fy (a:ByteArray) (w:World):Calls Tryz.prog 178 #[.string a] w fun e w'=>e=.returned (.bool false)∧w=w':=by
 go_enter Tryz.func178,Tryz.ntmps178
 go_wp2;go_ret;exact⟨Pl.ae (by simp),rfl⟩
theorem ux (a:Int) (w:World):Calls Tryz.prog 188 #[.int .i64 a] w fun e w'=>e=.returned (.bool false)∧w=w':=by
 go_enter Tryz.func188,Tryz.ntmps188
 go_wp2;go_ret;exact⟨Pl.ae (by simp),rfl⟩
theorem Lp (a b:ByteArray) (w:World):Calls Tryz.prog 138 #[.string a,.string b] w fun e w'=>e=.returned (.int .i64 (dw a b))∧w=w':=by
 obtain⟨R,hR⟩:∃ R,R=dw a b:=⟨_,rfl⟩
 have HR:Hid (R=dw a b):=hR;rw[← hR];clear hR;go_enter Tryz.func138,Tryz.ntmps138
 cases h1:Op.bytesLess a.toList b.toList<;>cases h2:(a.toList==b.toList)
 all_goals
  have HE:Hid (R=if Op.bytesLess a.toList b.toList=true then (-1:Int) else if (a.toList==b.toList)=true then 0 else 1):=HR.out;have vL:=hid (And.intro h1 h2);go_wp2_with (go_at_call 178;refine(Fy _ _).mono ?_;rintro e w' ⟨rfl,rfl⟩)
  go_ret;exact⟨Pl.aP (by rw[HE.out,vL.out.1,vL.out.2];rfl),rfl⟩
theorem LG (a b:Int) (w:World):Calls Tryz.prog 144 #[.int .i64 a,.int .i64 b] w fun e w'=>e=.returned (.int .i64 (fq a b))∧w=w':=by
 obtain⟨R,hR⟩:∃ R,R=fq a b:=⟨_,rfl⟩
 have HR:=hid hR;rw[← hR];clear hR;go_enter Tryz.func144,Tryz.ntmps144
 by_cases h1:a<b
 ·have HE:Hid (R= -1):=by show R=_;rw[HR.out];unfold fq;rw[if_pos h1]
  go_wp2_with (go_at_call 188;refine(ux _ _).mono ?_;rintro e w' ⟨rfl,rfl⟩)
  go_ret;exact⟨Pl.aP HE.out.symm,rfl⟩
 ·by_cases h2:b<a
  ·have HE:Hid (R=1):=by show R=_;rw[HR.out];unfold fq;rw[if_neg h1,if_pos h2]
   go_wp2_with (go_at_call 188;refine(ux _ _).mono ?_;rintro e w' ⟨rfl,rfl⟩)
   go_ret;exact⟨Pl.aP HE.out.symm,rfl⟩
  ·have HE:Hid (R=0):=by show R=_;rw[HR.out];unfold fq;rw[if_neg h1,if_neg h2]
   go_wp2_with (go_at_call 188;refine(ux _ _).mono ?_;rintro e w' ⟨rfl,rfl⟩)
   go_ret;exact⟨Pl.aP HE.out.symm,rfl⟩
theorem Eo (g c:Nat) (l:List Int) (w:World) (hl:l.length≤1048576) (hc:∀ i,i<l.length→w.cell? ⟨g,i,none⟩=some (.int .i64 (l.getD i 0))):
  Calls Tryz.prog 137 #[.slice (some ⟨g,0,none⟩) l.length c] w fun e w'=>e=.returned (.int .i64 (fA l))∧w=w':=by
 obtain⟨R,hR⟩:∃ R,R=fA l:=⟨_,rfl⟩
 have HR:=hid hR;rw[← hR];clear hR;go_enter Tryz.func137,Tryz.ntmps137
 go_wp2;go_loop [8] (fun i=>∃ k:Nat,k≤l.length∧i=.int .i64 k∧R=fA (l.drop k)) (fun i=>l.length - (intOf i).toNat)
 case atStart=>exact⟨0,nz,rfl,HR.out⟩
 case round=>
  obtain⟨k,hk,rfl,hq⟩:=hrel;have HQ:=hid hq;clear hq;by_cases av:k<l.length
  ·have xi:=hc k av;obtain⟨y,hy⟩:∃ y,y=l.getD k 0:=⟨_,rfl⟩
   rw[← hy]at xi;have HY:Hid (R=if y=0 then fA (l.drop (k+1)) else y):=by show R=_;rw[HQ.out,q8 l k av,hy]
   clear hy hc;by_cases hz:y=0
   ·have HE:Hid (R=fA (l.drop (k+1))):=by show R=_;rw[HY.out,if_pos hz]
    go_wp2;go_round
    case rel=>exact⟨k+1,by omega,by go_num,HE.out⟩
    case measure=>simp[intOf];omega
   ·have HE:Hid (R=y):=by show R=_;rw[HY.out,if_neg hz]
    go_wp2;go_ret;exact⟨Pl.aP HE.out.symm,rfl⟩
  ·have HE:Hid (R=0):=by show R=_;rw[HQ.out,List.drop_eq_nil_of_le (by omega)];rfl
   go_wp2;go_ret;exact⟨Pl.aP HE.out.symm,rfl⟩
theorem hU (x lo hi:Int) (w:World):Calls Tryz.prog 83 #[.int .i64 x,.int .i64 lo,.int .i64 hi] w fun e w'=>e=.returned (.bool (within x lo hi))∧w=w':=by
 obtain⟨R,hR⟩:∃ R,R=within x lo hi:=⟨_,rfl⟩
 have HR:=hid hR;rw[← hR];clear hR;go_enter Tryz.func83,Tryz.ntmps83
 by_cases h1:lo≤x
 ·by_cases h2:x≤hi
  ·have HE:Hid (R=true):=by show R=_;rw[HR.out];simp[within,h1,h2]
   go_wp2;go_ret;exact⟨Pl.ae HE.out.symm,rfl⟩
  ·have HE:Hid (R=false):=by show R=_;rw[HR.out];simp[within,h2]
   go_wp2;go_ret;exact⟨Pl.ae HE.out.symm,rfl⟩
 ·have HE:Hid (R=false):=by show R=_;rw[HR.out];simp[within,h1]
  go_wp2;go_ret;exact⟨Pl.ae HE.out.symm,rfl⟩
theorem FE (a b:ByteArray) (w:World):Calls Tryz.prog 121 #[.string a,.string b] w fun e w'=>e=.returned (.int .i64 (dw a b))∧w=w':=by
 obtain⟨R,hR⟩:∃ R,R=dw a b:=⟨_,rfl⟩
 have HR:Hid (R=dw a b):=hR;rw[← hR];clear hR;go_enter Tryz.func121,Tryz.ntmps121
 cases h1:Op.bytesLess a.toList b.toList<;>cases h2:(a.toList==b.toList)
 all_goals
  have HE:Hid (R=if Op.bytesLess a.toList b.toList=true then (-1:Int) else if (a.toList==b.toList)=true then 0 else 1):=HR.out;have vL:=hid (And.intro h1 h2);go_wp2;go_ret;exact⟨Pl.aP (by rw[HE.out,vL.out.1,vL.out.2];rfl),rfl⟩
theorem Fk (a b c d:ByteArray) (w:World):Calls Tryz.prog 63 #[.string a,.string b,.string c,.string d] w fun e w'=>e=.returned (.int .i64 (two a b c d))∧w=w':=by
 obtain⟨R,hR⟩:∃ R,R=two a b c d:=⟨_,rfl⟩
 have HR:=hid hR;rw[← hR];clear hR;obtain⟨y,hy⟩:∃ y,y=dw a c:=⟨_,rfl⟩
 have HK:Hid (∀ W,Calls Tryz.prog 121 #[.string a,.string c] W fun e w'=>e=.returned (.int .i64 y)∧W=w'):=fun W=>by rw[hy];exact FE a c W
 have mn:Hid (R=if y=0 then dw b d else y):=by show R=_;rw[HR.out,hy];rfl
 clear hy HR;go_enter Tryz.func63,Tryz.ntmps63
 go_wp2_with fail
 refine(HK.out _).mono ?_;rintro e w' ⟨rfl,rfl⟩;by_cases hz:y=0
 ·have HE:Hid (R=dw b d):=by show R=_;rw[mn.out,if_pos hz]
  go_wp2_with fail
  refine(FE b d _).mono ?_;rintro e w' ⟨rfl,rfl⟩;go_wp2;go_ret;exact⟨Pl.aP HE.out.symm,rfl⟩
 ·have HE:Hid (R=y):=by show R=_;rw[mn.out,if_neg hz]
  go_wp2_with fail
  refine(HK.out _).mono ?_;rintro e w' ⟨rfl,rfl⟩;go_wp2;go_ret;exact⟨Pl.aP HE.out.symm,rfl⟩
def aC (p:Nat→Bool):Nat→Bool
 |0=>true
 |k+1=>aC p k&&p k
theorem gG (p:Nat→Bool):∀ n,aC p n=true↔∀ i,i<n→p i=true
 |0=>by simp[aC]
 |n+1=>by
  simp only[aC,Bool.and_eq_true,gG p n];constructor
  ·intro ⟨h1,h2⟩ i hi;by_cases e:i=n
   ·subst e;exact h2
   ·exact h1 i (by omega)
  ·intro h;exact⟨fun i hi=>h i (by omega),h n (by omega)⟩
theorem ba {p:Nat→Bool} {n k:Nat} (hk:k<n) (h:p k=false):aC p n=false:=by
 cases e:aC p n
 ·rfl
 ·have:=(gG p n).1 e k hk;rw[h]at this;cases this
theorem aV {p:Nat→Bool} {k:Nat} (h:aC p k=true) (hp:p k=true):aC p (k+1)=true:=by
 simp[aC,h,hp]
def wO (x y:Int):Int:=if x=0 then y else x
def zv (x y z:Int):Int:=if x=0 then wO y z else x
theorem nz2 (x y:Int):fA [x,y]=wO x y:=by
 unfold fA wO;split
 ·unfold fA;split
  ·rename_i h;rw[h];rfl
  ·rfl
 ·rfl
theorem nz3 (x y z:Int):fA [x,y,z]=zv x y z:=by
 unfold fA zv;split
 ·exact nz2 y z
 ·rfl
theorem AP (g c:Nat) (x y:Int) (w:World) (h0:w.cell? ⟨g,0,none⟩=some (.int .i64 x)) (h1:w.cell? ⟨g,1,none⟩=some (.int .i64 y)):
  Calls Tryz.prog 137 #[.slice (some ⟨g,0,none⟩) 2 c] w fun e w'=>e=.returned (.int .i64 (wO x y))∧w=w':=by
 have:=Eo g c [x,y] w (by simp) (fun i hi=>by
  match i,hi with
  |0,_=>exact h0
  |1,_=>exact h1
  |n+2,h=>simp at h;omega)
 rw[nz2]at this;exact this
theorem Fi (g c:Nat) (x y z:Int) (w:World) (h0:w.cell? ⟨g,0,none⟩=some (.int .i64 x)) (h1:w.cell? ⟨g,1,none⟩=some (.int .i64 y)) (h2:w.cell? ⟨g,2,none⟩=some (.int .i64 z)):
  Calls Tryz.prog 137 #[.slice (some ⟨g,0,none⟩) 3 c] w fun e w'=>e=.returned (.int .i64 (zv x y z))∧w=w':=by
 have:=Eo g c [x,y,z] w (by simp) (fun i hi=>by
  match i,hi with
  |0,_=>exact h0
  |1,_=>exact h1
  |2,_=>exact h2
  |n+3,h=>simp at h;omega)
 rw[nz3]at this;exact this
theorem bH {P:Program} {id:Nat} {Q:Exit→Act→World→Prop} {a:Act} {w:World} {l:List Oper} (n:Nat) (hm:P.follows .mixedOrders=true) (hB:Region.lexTailB .any l.toArray n=true)
  (h:∀ W,W=w.drew→wpStill P l.toArray W (fun a'=>wpList P l.toArray Q (l.drop n) a' W) (l.take n) a):(Code.region id l.toArray true).wp P Q a w:=
 wp_region_still_tail n hm hB (h _ rfl)
structure Pst (w:World) where
 W:World
 ok:Bel w W
theorem dR (w:World):Nonempty (Pst w):=⟨⟨w,br⟩⟩
theorem Pst.cell {w:World} (x:Pst w) {b j:Nat} {v:Value} (h:w.cell? ⟨b,j,none⟩=some v) (hb:b<w.heap.size):x.W.cell? ⟨b,j,none⟩=some v:=(x.ok.cell (p:=⟨b,j,none⟩) hb).trans h
theorem Pst.size {w:World} (x:Pst w) {b:Nat} (h:b<w.heap.size):b<x.W.heap.size:=lo h x.ok.size
theorem au {P:Program} {id:Nat} {Q:Exit→Act→World→Prop} {a:Act} {w:World} {l:List Oper} (v:World) (hv:Bel v w) (hm:P.follows .mixedOrders=true) (hB:Region.lexB .any l.toArray=true)
  (h:wpQuiet P l.toArray (fun w'=>∃ x:Pst v,w'=x.W) (fun a'=>∀ w',(∃ x:Pst v,w'=x.W)→Q .normal a' w') l a):(Code.region id l.toArray true).wp P Q a w:=
 wp_region_quiet (C:=fun w'=>∃ x:Pst v,w'=x.W) hm hB ⟨⟨w.drew,Below.drew hv⟩,rfl⟩ (by simpa using h)
theorem oq (a b:ByteArray) (w:World):Calls Tryz.prog 138 #[.string a,.string b] w fun e w'=>e=.returned (.int .i64 (dw a b))∧w'=w:=(Lp a b w).mono (fun _ _ h=>⟨h.1,h.2.symm⟩)
theorem j4 (n:Int) (h0:0≤n) (h1:n≤1099511627776):IntKind.i64.wrap n=n:=by
 simp[IntKind.wrap,IntKind.bits,IntKind.signed];omega
end Go.Proofs.YtbiokpmdghmgcaaGreat
namespace Go.Proofs.YtbiokpmdghmgcaaGreat
set_option maxRecDepth 8000
set_option maxHeartbeats 40000000
open Go.RowKit Go.Deep
theorem jc:∀ l:List UInt8,Op.bytesLess l l=false
 |[]=>rfl
 |x::l=>by unfold Op.bytesLess;simp[jc l]
def three (a b c d e f:ByteArray):Int:=if dw a d=0 then two b c e f else dw a d
theorem Ba (k0 k1 j0 j1:ByteArray) (p2 p3 p4 p5 p6 q2 q3 q4 q5 q6:Value) (w:World):Calls Tryz.prog 85 #[.agg #[.string k0,.string k1,p2,p3,p4,p5,p6],.agg #[.string j0,.string j1,q2,q3,q4,q5,q6]] w fun e w'=>e=.returned (.int .i64 (two k0 k1 j0 j1))∧Bel w w':=by
 obtain⟨wa,ch⟩:∃ wa,wa=(w.alloc (.cells #[.string k0,.string k1,p2,p3,p4,p5,p6] 111)).alloc (.cells #[.string j0,.string j1,q2,q3,q4,q5,q6] 111):=⟨_,rfl⟩
 have HB:Hid (Bel w wa.drew):=by show Below _ _ _;rw[ch];exact Below.drew (ab (ab br _) _)
 have x0:∀ j,wa.drew.cell? ⟨w.heap.size,j,none⟩=(#[.string k0,.string k1,p2,p3,p4,p5,p6]:Array Value)[j]? :=fun j=>by
  show wa.cell? _=_;rw[ch];exact(World.cell?_alloc_past _ _ _ (by simp)).trans (World.cell?_alloc_at _ _ _ _ rfl)
 have x1:∀ j,wa.drew.cell? ⟨w.heap.size+1,j,none⟩=(#[.string j0,.string j1,q2,q3,q4,q5,q6]:Array Value)[j]? :=fun j=>by
  show wa.cell? _=_;rw[ch];exact(World.cell?_alloc_at _ _ _ _ (by simp))
 have z:w.heap.size+1<wa.drew.heap.size:=by show _<wa.heap.size;rw[ch];simp
 go_enter Tryz.func85,Tryz.ntmps85
 go_upto_region 1 with fail
 rw[← ch];refine bH 10 (by kernel_rfl) (by kernel_rfl) ?_;intro W hW;rw[← hW]at HB x0 x1 z;simp only[List.take_succ_cons,List.take_zero,List.drop_succ_cons,List.drop_zero];have a0:=x0 0;have b0:=x1 0;have a1:=x0 1;have b1:=x1 1;simp at a0 b0 a1 b1;clear x0 x1 ch hW;still_step
 still_step
 still_step
 still_step
 still_call (oq _ _ _)
 still_step
 still_step
 still_step
 still_step
 still_call (oq _ _ _)
 refine wpStill_nil ?_;go_wp2_with (go_at_call 137;refine(AP _ _ (dw k0 j0) (dw k1 j1) _ (by simp) (by simp)).mono ?_;rintro e w' ⟨rfl,rfl⟩)
 go_ret;exact⟨rfl,ab HB.out _⟩
theorem Ad (k0 k1 j0 j1:ByteArray) (p2 p3 q2 q3:Value) (w:World):Calls Tryz.prog 92 #[.agg #[.string k0,.string k1,p2,p3],.agg #[.string j0,.string j1,q2,q3]] w fun e w'=>e=.returned (.int .i64 (two k0 k1 j0 j1))∧Bel w w':=by
 obtain⟨wa,ch⟩:∃ wa,wa=(w.alloc (.cells #[.string k0,.string k1,p2,p3] 131)).alloc (.cells #[.string j0,.string j1,q2,q3] 131):=⟨_,rfl⟩
 have HB:Hid (Bel w wa.drew):=by show Below _ _ _;rw[ch];exact Below.drew (ab (ab br _) _)
 have x0:∀ j,wa.drew.cell? ⟨w.heap.size,j,none⟩=(#[.string k0,.string k1,p2,p3]:Array Value)[j]? :=fun j=>by
  show wa.cell? _=_;rw[ch];exact(World.cell?_alloc_past _ _ _ (by simp)).trans (World.cell?_alloc_at _ _ _ _ rfl)
 have x1:∀ j,wa.drew.cell? ⟨w.heap.size+1,j,none⟩=(#[.string j0,.string j1,q2,q3]:Array Value)[j]? :=fun j=>by
  show wa.cell? _=_;rw[ch];exact(World.cell?_alloc_at _ _ _ _ (by simp))
 have z:w.heap.size+1<wa.drew.heap.size:=by show _<wa.heap.size;rw[ch];simp
 go_enter Tryz.func92,Tryz.ntmps92
 go_upto_region 1 with fail
 rw[← ch];refine bH 10 (by kernel_rfl) (by kernel_rfl) ?_;intro W hW;rw[← hW]at HB x0 x1 z;simp only[List.take_succ_cons,List.take_zero,List.drop_succ_cons,List.drop_zero];have a0:=x0 0;have b0:=x1 0;have a1:=x0 1;have b1:=x1 1;simp at a0 b0 a1 b1;clear x0 x1 ch hW;still_step
 still_step
 still_step
 still_step
 still_call (oq _ _ _)
 still_step
 still_step
 still_step
 still_step
 still_call (oq _ _ _)
 refine wpStill_nil ?_;go_wp2_with (go_at_call 137;refine(AP _ _ (dw k0 j0) (dw k1 j1) _ (by simp) (by simp)).mono ?_;rintro e w' ⟨rfl,rfl⟩)
 go_ret;exact⟨rfl,ab HB.out _⟩
theorem E6 (k0 k1 k2 j0 j1 j2:ByteArray) (p3 p4 q3 q4:Value) (w:World):Calls Tryz.prog 95 #[.agg #[.string k0,.string k1,.string k2,p3,p4],.agg #[.string j0,.string j1,.string j2,q3,q4]] w fun e w'=>e=.returned (.int .i64 (three k0 k1 k2 j0 j1 j2))∧Bel w w':=by
 obtain⟨wa,ch⟩:∃ wa,wa=(w.alloc (.cells #[.string k0,.string k1,.string k2,p3,p4] 129)).alloc (.cells #[.string j0,.string j1,.string j2,q3,q4] 129):=⟨_,rfl⟩
 have HB:Hid (Bel w wa.drew):=by show Below _ _ _;rw[ch];exact Below.drew (ab (ab br _) _)
 have x0:∀ j,wa.drew.cell? ⟨w.heap.size,j,none⟩=(#[.string k0,.string k1,.string k2,p3,p4]:Array Value)[j]? :=fun j=>by
  show wa.cell? _=_;rw[ch];exact(World.cell?_alloc_past _ _ _ (by simp)).trans (World.cell?_alloc_at _ _ _ _ rfl)
 have x1:∀ j,wa.drew.cell? ⟨w.heap.size+1,j,none⟩=(#[.string j0,.string j1,.string j2,q3,q4]:Array Value)[j]? :=fun j=>by
  show wa.cell? _=_;rw[ch];exact(World.cell?_alloc_at _ _ _ _ (by simp))
 have z:w.heap.size+1<wa.drew.heap.size:=by show _<wa.heap.size;rw[ch];simp
 go_enter Tryz.func95,Tryz.ntmps95
 go_upto_region 1 with fail
 rw[← ch];refine bH 15 (by kernel_rfl) (by kernel_rfl) ?_;intro W hW;rw[← hW]at HB x0 x1 z;simp only[List.take_succ_cons,List.take_zero,List.drop_succ_cons,List.drop_zero];have a0:=x0 0;have b0:=x1 0;have a1:=x0 1;have b1:=x1 1;have a2:=x0 2;have b2:=x1 2;simp at a0 b0 a1 b1 a2 b2;clear x0 x1 ch hW;still_step
 still_step
 still_step
 still_step
 still_call (oq _ _ _)
 still_step
 still_step
 still_step
 still_step
 still_call (oq _ _ _)
 still_step
 still_step
 still_step
 still_step
 still_call (oq _ _ _)
 refine wpStill_nil ?_;go_wp2_with (go_at_call 137;refine(Fi _ _ (dw k0 j0) (dw k1 j1) (dw k2 j2) _ (by simp) (by simp) (by simp)).mono ?_;rintro e w' ⟨rfl,rfl⟩)
 go_ret;exact⟨rfl,ab HB.out _⟩
theorem FX (k j:Int) (p1 p2 p3 p4 p5 p6 q1 q2 q3 q4 q5 q6:Value) (w:World):Calls Tryz.prog 88 #[.agg #[.int .i64 k,p1,p2,p3,p4,p5,p6],.agg #[.int .i64 j,q1,q2,q3,q4,q5,q6]] w fun e w'=>e=.returned (.int .i64 (fq k j))∧Bel w w':=by
 go_enter Tryz.func88,Tryz.ntmps88
 go_wp2_with fail
 refine(LG _ _ _).mono ?_;rintro e w' ⟨rfl,rfl⟩;go_wp2;go_ret;refine⟨rfl, ?_⟩
 (repeat(first|exact br|refine ab ?_ _|refine Below.drew ?_))
theorem yq (k0 k1 k2 j0 j1 j2:ByteArray) (p3 p4 q3 q4:Value) (w:World):Calls Tryz.prog 71 #[.agg #[.string k0,.string k1,.string k2,p3,p4],.agg #[.string j0,.string j1,.string j2,q3,q4]] w fun e w'=>e=.returned (.int .i64 (three k0 k1 k2 j0 j1 j2))∧Bel w w':=by
 obtain⟨r,hR⟩:∃ r,r=three k0 k1 k2 j0 j1 j2:=⟨_,rfl⟩
 rw[← hR];go_enter Tryz.func71,Tryz.ntmps71
 cases h:(k0.toList==j0.toList)
 ·have HE:Hid (r=dw k0 j0):=by
   show r=_;rw[hR];unfold three;rw[if_neg];unfold dw;rw[h];split<;>simp
  clear hR;go_wp2_with fail
  refine(FE _ _ _).mono ?_;rintro e w' ⟨rfl,rfl⟩;go_wp2;go_ret;refine⟨Pl.aP HE.out.symm, ?_⟩
  (repeat(first|exact br|refine ab ?_ _|refine Below.drew ?_))
 ·have HE:Hid (r=two k1 k2 j1 j2):=by
   show r=_;rw[hR];unfold three;rw[if_pos];unfold dw;rw[h];have e:k0.toList=j0.toList:=by simpa using h
   have:Pl.less k0 j0=false:=by unfold Pl.less;rw[e];exact jc _
   rw[this];rfl
  clear hR;go_wp2_with fail
  refine(Fk _ _ _ _ _).mono ?_;rintro e w' ⟨rfl,rfl⟩;go_wp2;go_ret;refine⟨Pl.aP HE.out.symm, ?_⟩
  (repeat(first|exact br|refine ab ?_ _|refine Below.drew ?_))
set_option maxRecDepth 8000
set_option maxHeartbeats 40000000
open Go.RowKit Go.Deep
def p8 (x y:Ob):Int:=two x.kind x.name y.kind y.name
def jB (l:List Ob):Bool:=aC (fun i=>decide (p8 (l.getD i Ob.none) (l.getD (i+1) Ob.none)<0)) (l.length - 1)
theorem E1 (B:Nat) (l:List Ob) (w:World) (h:fX w B l):
  Calls Tryz.prog 84 #[.slice (some ⟨B,0,none⟩) l.length l.length,.func (.func 85) #[] #[]] w fun e w'=>e=.returned (.bool (jB l))∧Bel w w':=by
 have hl:=h.len;have HH:=hid h;obtain⟨R,hR⟩:∃ R,R=jB l:=⟨_,rfl⟩
 have HR:=hid hR;rw[← hR];clear h hR;go_enter Tryz.func84,Tryz.ntmps84
 go_wp2;go_loopw [5] (fun i wr=>∃ j:Nat,j≤l.length - 1∧i=.int .i64 ((j+1:Nat):Int)∧aC (fun i=>decide (p8 (l.getD i Ob.none) (l.getD (i+1) Ob.none)<0)) j=true∧Bel w wr) (fun i _=>l.length - (intOf i).toNat)
 case atStart=>exact⟨0,nz,rfl,rfl,br⟩
 case round=>
  obtain⟨j,hj,rfl,hq,hW⟩:=hrel;have HQ:=hid hq;clear hq;by_cases av:j+1<l.length
  ·obtain⟨x,hx⟩:∃ x,x=l.getD j Ob.none:=⟨_,rfl⟩
   obtain⟨y,hy⟩:∃ y,y=l.getD (j+1) Ob.none:=⟨_,rfl⟩
   have mj:=hid hW.drew;have bA:=HH.out.later hW.drew;have hB:=bA.lt;have dO:=bA.at_ j (by omega);have pF:=bA.at_ (j+1) av;rw[← hx]at dO;rw[← hy]at pF;obtain⟨b1,b2,_,c0,c1,c2,c3,c4,c5,c6,_⟩:=dO;obtain⟨q1,q2,_,d0,d1,d2,d3,d4,d5,d6,_⟩:=pF;obtain⟨r,hr⟩:∃ r,r=p8 x y:=⟨_,rfl⟩
   have HX:Hid (∀ W,Calls Tryz.prog 85 #[.agg #[.string x.kind,.string x.name,.string x.team,.slice (some ⟨b1,0,none⟩) x.values.length x.values.length,.bool x.ending,.slice (some ⟨b2,0,none⟩) x.holds.length x.holds.length,.int .i64 x.version],.agg #[.string y.kind,.string y.name,.string y.team,.slice (some ⟨q1,0,none⟩) y.values.length y.values.length,.bool y.ending,.slice (some ⟨q2,0,none⟩) y.holds.length y.holds.length,.int .i64 y.version]] W fun e w'=>e=.returned (.int .i64 r)∧Bel W w'):=fun W=>by rw[hr];exact Ba _ _ _ _ _ _ _ _ _ _ _ _ _ _ W
   have HP:Hid ((fun i=>decide (p8 (l.getD i Ob.none) (l.getD (i+1) Ob.none)<0)) j=decide (r<0)):=by show _=_;rw[hr,hx,hy]
   clear hr bA hx hy;by_cases hz:r<0
   ·have HE:=aV HQ.out (HP.out.trans (decide_eq_true hz));have vL:=hid HE;clear HE;go_wp2_with fail
    refine bH 10 (by kernel_rfl) (by kernel_rfl) ?_;intro W kv;rw[← kv]at hB mj c0 c1 c2 c3 c4 c5 c6 d0 d1 d2 d3 d4 d5 d6;simp only[List.take_succ_cons,List.take_zero,List.drop_succ_cons,List.drop_zero];clear kv;have F3:(0:Int)≤(j:Int):=by omega
    have GI:(j:Int)<(l.length:Int):=by omega
    have Hq:(0:Int)≤(j:Int)+1:=by omega
    have GB:IntKind.i64.wrap (j:Int)=(j:Int):=j4 _ (by omega) (by omega);repeat still_step
    refine wpStill_nil ?_;go_wp2_with (go_at_call 85;refine(HX.out _).mono ?_;rintro e w2 ⟨rfl,aA⟩)
    go_roundw
    case rel=>exact⟨j+1,by omega,by go_num,vL.out,aa mj.out aA⟩
    case measure=>simp[intOf];omega
   ·have HE:Hid (R=false):=by show _=_;rw[HR.out];exact ba (k:=j) (by omega) (HP.out.trans (decide_eq_false hz))
    go_wp2_with fail
    refine bH 10 (by kernel_rfl) (by kernel_rfl) ?_;intro W kv;rw[← kv]at hB mj c0 c1 c2 c3 c4 c5 c6 d0 d1 d2 d3 d4 d5 d6;simp only[List.take_succ_cons,List.take_zero,List.drop_succ_cons,List.drop_zero];clear kv;have F3:(0:Int)≤(j:Int):=by omega
    have GI:(j:Int)<(l.length:Int):=by omega
    have Hq:(0:Int)≤(j:Int)+1:=by omega
    have GB:IntKind.i64.wrap (j:Int)=(j:Int):=j4 _ (by omega) (by omega);repeat still_step
    refine wpStill_nil ?_;go_wp2_with (go_at_call 85;refine(HX.out _).mono ?_;rintro e w2 ⟨rfl,aA⟩)
    go_ret;exact⟨Pl.ae HE.out.symm,aa mj.out aA⟩
  ·have HE:Hid (R=true):=by
    show R=true;rw[HR.out];have:j=l.length - 1:=by omega
    rw[this]at HQ;exact HQ.out
   go_wp2;go_ret;exact⟨Pl.ae HE.out.symm,hW⟩
def vR (x y:Gr):Int:=fq x.number y.number
def oi (l:List Gr):Bool:=aC (fun i=>decide (vR (l.getD i Gr.none) (l.getD (i+1) Gr.none)<0)) (l.length - 1)
theorem FW (B:Nat) (l:List Gr) (w:World) (h:gy w B l):
  Calls Tryz.prog 87 #[.slice (some ⟨B,0,none⟩) l.length l.length,.func (.func 88) #[] #[]] w fun e w'=>e=.returned (.bool (oi l))∧Bel w w':=by
 have hl:=h.len;have HH:=hid h;obtain⟨R,hR⟩:∃ R,R=oi l:=⟨_,rfl⟩
 have HR:=hid hR;rw[← hR];clear h hR;go_enter Tryz.func87,Tryz.ntmps87
 go_wp2;go_loopw [5] (fun i wr=>∃ j:Nat,j≤l.length - 1∧i=.int .i64 ((j+1:Nat):Int)∧aC (fun i=>decide (vR (l.getD i Gr.none) (l.getD (i+1) Gr.none)<0)) j=true∧Bel w wr) (fun i _=>l.length - (intOf i).toNat)
 case atStart=>exact⟨0,nz,rfl,rfl,br⟩
 case round=>
  obtain⟨j,hj,rfl,hq,hW⟩:=hrel;have HQ:=hid hq;clear hq;by_cases av:j+1<l.length
  ·obtain⟨x,hx⟩:∃ x,x=l.getD j Gr.none:=⟨_,rfl⟩
   obtain⟨y,hy⟩:∃ y,y=l.getD (j+1) Gr.none:=⟨_,rfl⟩
   have mj:=hid hW.drew;have bA:=HH.out.later hW.drew;have hB:=bA.lt;have dO:=bA.at_ j (by omega);have pF:=bA.at_ (j+1) av;rw[← hx]at dO;rw[← hy]at pF;obtain⟨b1,_,c0,c1,c2,c3,c4,c5,c6,_⟩:=dO;obtain⟨q1,_,d0,d1,d2,d3,d4,d5,d6,_⟩:=pF;obtain⟨r,hr⟩:∃ r,r=vR x y:=⟨_,rfl⟩
   have HX:Hid (∀ W,Calls Tryz.prog 88 #[.agg #[.int .i64 x.number,.string x.too,.string x.by_,.slice (some ⟨b1,0,none⟩) x.rule.verbs.length x.rule.verbs.length,.string x.rule.kind,.string x.rule.team,.string x.rule.pre],.agg #[.int .i64 y.number,.string y.too,.string y.by_,.slice (some ⟨q1,0,none⟩) y.rule.verbs.length y.rule.verbs.length,.string y.rule.kind,.string y.rule.team,.string y.rule.pre]] W fun e w'=>e=.returned (.int .i64 r)∧Bel W w'):=fun W=>by rw[hr];exact FX _ _ _ _ _ _ _ _ _ _ _ _ _ _ W
   have HP:Hid ((fun i=>decide (vR (l.getD i Gr.none) (l.getD (i+1) Gr.none)<0)) j=decide (r<0)):=by show _=_;rw[hr,hx,hy]
   clear hr bA hx hy;by_cases hz:r<0
   ·have HE:=aV HQ.out (HP.out.trans (decide_eq_true hz));have vL:=hid HE;clear HE;go_wp2_with fail
    refine bH 10 (by kernel_rfl) (by kernel_rfl) ?_;intro W kv;rw[← kv]at hB mj c0 c1 c2 c3 c4 c5 c6 d0 d1 d2 d3 d4 d5 d6;simp only[List.take_succ_cons,List.take_zero,List.drop_succ_cons,List.drop_zero];clear kv;have F3:(0:Int)≤(j:Int):=by omega
    have GI:(j:Int)<(l.length:Int):=by omega
    have Hq:(0:Int)≤(j:Int)+1:=by omega
    have GB:IntKind.i64.wrap (j:Int)=(j:Int):=j4 _ (by omega) (by omega);repeat still_step
    refine wpStill_nil ?_;go_wp2_with (go_at_call 88;refine(HX.out _).mono ?_;rintro e w2 ⟨rfl,aA⟩)
    go_roundw
    case rel=>exact⟨j+1,by omega,by go_num,vL.out,aa mj.out aA⟩
    case measure=>simp[intOf];omega
   ·have HE:Hid (R=false):=by show _=_;rw[HR.out];exact ba (k:=j) (by omega) (HP.out.trans (decide_eq_false hz))
    go_wp2_with fail
    refine bH 10 (by kernel_rfl) (by kernel_rfl) ?_;intro W kv;rw[← kv]at hB mj c0 c1 c2 c3 c4 c5 c6 d0 d1 d2 d3 d4 d5 d6;simp only[List.take_succ_cons,List.take_zero,List.drop_succ_cons,List.drop_zero];clear kv;have F3:(0:Int)≤(j:Int):=by omega
    have GI:(j:Int)<(l.length:Int):=by omega
    have Hq:(0:Int)≤(j:Int)+1:=by omega
    have GB:IntKind.i64.wrap (j:Int)=(j:Int):=j4 _ (by omega) (by omega);repeat still_step
    refine wpStill_nil ?_;go_wp2_with (go_at_call 88;refine(HX.out _).mono ?_;rintro e w2 ⟨rfl,aA⟩)
    go_ret;exact⟨Pl.ae HE.out.symm,aa mj.out aA⟩
  ·have HE:Hid (R=true):=by
    show R=true;rw[HR.out];have:j=l.length - 1:=by omega
    rw[this]at HQ;exact HQ.out
   go_wp2;go_ret;exact⟨Pl.ae HE.out.symm,hW⟩
def qe (x y:Lg):Int:=two x.team x.res y.team y.res
def gA (l:List Lg):Bool:=aC (fun i=>decide (qe (l.getD i Lg.none) (l.getD (i+1) Lg.none)<0)) (l.length - 1)
theorem E3 (B:Nat) (l:List Lg) (w:World) (h:gV w B l):
  Calls Tryz.prog 91 #[.slice (some ⟨B,0,none⟩) l.length l.length,.func (.func 92) #[] #[]] w fun e w'=>e=.returned (.bool (gA l))∧Bel w w':=by
 have hl:=h.len;have HH:=hid h;obtain⟨R,hR⟩:∃ R,R=gA l:=⟨_,rfl⟩
 have HR:=hid hR;rw[← hR];clear h hR;go_enter Tryz.func91,Tryz.ntmps91
 go_wp2;go_loopw [5] (fun i wr=>∃ j:Nat,j≤l.length - 1∧i=.int .i64 ((j+1:Nat):Int)∧aC (fun i=>decide (qe (l.getD i Lg.none) (l.getD (i+1) Lg.none)<0)) j=true∧Bel w wr) (fun i _=>l.length - (intOf i).toNat)
 case atStart=>exact⟨0,nz,rfl,rfl,br⟩
 case round=>
  obtain⟨j,hj,rfl,hq,hW⟩:=hrel;have HQ:=hid hq;clear hq;by_cases av:j+1<l.length
  ·obtain⟨x,hx⟩:∃ x,x=l.getD j Lg.none:=⟨_,rfl⟩
   obtain⟨y,hy⟩:∃ y,y=l.getD (j+1) Lg.none:=⟨_,rfl⟩
   have mj:=hid hW.drew;have bA:=HH.out.later hW.drew;have hB:=bA.lt;have dO:=bA.at_ j (by omega);have pF:=bA.at_ (j+1) av;rw[← hx]at dO;rw[← hy]at pF;obtain⟨c0,c1,c2,c3,_⟩:=dO;obtain⟨d0,d1,d2,d3,_⟩:=pF;obtain⟨r,hr⟩:∃ r,r=qe x y:=⟨_,rfl⟩
   have HX:Hid (∀ W,Calls Tryz.prog 92 #[.agg #[.string x.team,.string x.res,.int .i64 x.most,.int .i64 x.free],.agg #[.string y.team,.string y.res,.int .i64 y.most,.int .i64 y.free]] W fun e w'=>e=.returned (.int .i64 r)∧Bel W w'):=fun W=>by rw[hr];exact Ad _ _ _ _ _ _ _ _ W
   have HP:Hid ((fun i=>decide (qe (l.getD i Lg.none) (l.getD (i+1) Lg.none)<0)) j=decide (r<0)):=by show _=_;rw[hr,hx,hy]
   clear hr bA hx hy;by_cases hz:r<0
   ·have HE:=aV HQ.out (HP.out.trans (decide_eq_true hz));have vL:=hid HE;clear HE;go_wp2_with fail
    refine bH 10 (by kernel_rfl) (by kernel_rfl) ?_;intro W kv;rw[← kv]at hB mj c0 c1 c2 c3 d0 d1 d2 d3;simp only[List.take_succ_cons,List.take_zero,List.drop_succ_cons,List.drop_zero];clear kv;have F3:(0:Int)≤(j:Int):=by omega
    have GI:(j:Int)<(l.length:Int):=by omega
    have Hq:(0:Int)≤(j:Int)+1:=by omega
    have GB:IntKind.i64.wrap (j:Int)=(j:Int):=j4 _ (by omega) (by omega);repeat still_step
    refine wpStill_nil ?_;go_wp2_with (go_at_call 92;refine(HX.out _).mono ?_;rintro e w2 ⟨rfl,aA⟩)
    go_roundw
    case rel=>exact⟨j+1,by omega,by go_num,vL.out,aa mj.out aA⟩
    case measure=>simp[intOf];omega
   ·have HE:Hid (R=false):=by show _=_;rw[HR.out];exact ba (k:=j) (by omega) (HP.out.trans (decide_eq_false hz))
    go_wp2_with fail
    refine bH 10 (by kernel_rfl) (by kernel_rfl) ?_;intro W kv;rw[← kv]at hB mj c0 c1 c2 c3 d0 d1 d2 d3;simp only[List.take_succ_cons,List.take_zero,List.drop_succ_cons,List.drop_zero];clear kv;have F3:(0:Int)≤(j:Int):=by omega
    have GI:(j:Int)<(l.length:Int):=by omega
    have Hq:(0:Int)≤(j:Int)+1:=by omega
    have GB:IntKind.i64.wrap (j:Int)=(j:Int):=j4 _ (by omega) (by omega);repeat still_step
    refine wpStill_nil ?_;go_wp2_with (go_at_call 92;refine(HX.out _).mono ?_;rintro e w2 ⟨rfl,aA⟩)
    go_ret;exact⟨Pl.ae HE.out.symm,aa mj.out aA⟩
  ·have HE:Hid (R=true):=by
    show R=true;rw[HR.out];have:j=l.length - 1:=by omega
    rw[this]at HQ;exact HQ.out
   go_wp2;go_ret;exact⟨Pl.ae HE.out.symm,hW⟩
def pY (x y:Ps):Int:=three x.door x.team x.res y.door y.team y.res
def m8 (l:List Ps):Bool:=aC (fun i=>decide (pY (l.getD i Ps.none) (l.getD (i+1) Ps.none)<0)) (l.length - 1)
theorem FM (B:Nat) (l:List Ps) (w:World) (h:iW w B l):
  Calls Tryz.prog 94 #[.slice (some ⟨B,0,none⟩) l.length l.length,.func (.func 95) #[] #[]] w fun e w'=>e=.returned (.bool (m8 l))∧Bel w w':=by
 have hl:=h.len;have HH:=hid h;obtain⟨R,hR⟩:∃ R,R=m8 l:=⟨_,rfl⟩
 have HR:=hid hR;rw[← hR];clear h hR;go_enter Tryz.func94,Tryz.ntmps94
 go_wp2;go_loopw [5] (fun i wr=>∃ j:Nat,j≤l.length - 1∧i=.int .i64 ((j+1:Nat):Int)∧aC (fun i=>decide (pY (l.getD i Ps.none) (l.getD (i+1) Ps.none)<0)) j=true∧Bel w wr) (fun i _=>l.length - (intOf i).toNat)
 case atStart=>exact⟨0,nz,rfl,rfl,br⟩
 case round=>
  obtain⟨j,hj,rfl,hq,hW⟩:=hrel;have HQ:=hid hq;clear hq;by_cases av:j+1<l.length
  ·obtain⟨x,hx⟩:∃ x,x=l.getD j Ps.none:=⟨_,rfl⟩
   obtain⟨y,hy⟩:∃ y,y=l.getD (j+1) Ps.none:=⟨_,rfl⟩
   have mj:=hid hW.drew;have bA:=HH.out.later hW.drew;have hB:=bA.lt;have dO:=bA.at_ j (by omega);have pF:=bA.at_ (j+1) av;rw[← hx]at dO;rw[← hy]at pF;obtain⟨c0,c1,c2,c3,c4,_⟩:=dO;obtain⟨d0,d1,d2,d3,d4,_⟩:=pF;obtain⟨r,hr⟩:∃ r,r=pY x y:=⟨_,rfl⟩
   have HX:Hid (∀ W,Calls Tryz.prog 95 #[.agg #[.string x.door,.string x.team,.string x.res,.int .i64 x.amount,.int .i64 x.til],.agg #[.string y.door,.string y.team,.string y.res,.int .i64 y.amount,.int .i64 y.til]] W fun e w'=>e=.returned (.int .i64 r)∧Bel W w'):=fun W=>by rw[hr];exact E6 _ _ _ _ _ _ _ _ _ _ W
   have HP:Hid ((fun i=>decide (pY (l.getD i Ps.none) (l.getD (i+1) Ps.none)<0)) j=decide (r<0)):=by show _=_;rw[hr,hx,hy]
   clear hr bA hx hy;by_cases hz:r<0
   ·have HE:=aV HQ.out (HP.out.trans (decide_eq_true hz));have vL:=hid HE;clear HE;go_wp2_with fail
    refine bH 10 (by kernel_rfl) (by kernel_rfl) ?_;intro W kv;rw[← kv]at hB mj c0 c1 c2 c3 c4 d0 d1 d2 d3 d4;simp only[List.take_succ_cons,List.take_zero,List.drop_succ_cons,List.drop_zero];clear kv;have F3:(0:Int)≤(j:Int):=by omega
    have GI:(j:Int)<(l.length:Int):=by omega
    have Hq:(0:Int)≤(j:Int)+1:=by omega
    have GB:IntKind.i64.wrap (j:Int)=(j:Int):=j4 _ (by omega) (by omega);repeat still_step
    refine wpStill_nil ?_;go_wp2_with (go_at_call 95;refine(HX.out _).mono ?_;rintro e w2 ⟨rfl,aA⟩)
    go_roundw
    case rel=>exact⟨j+1,by omega,by go_num,vL.out,aa mj.out aA⟩
    case measure=>simp[intOf];omega
   ·have HE:Hid (R=false):=by show _=_;rw[HR.out];exact ba (k:=j) (by omega) (HP.out.trans (decide_eq_false hz))
    go_wp2_with fail
    refine bH 10 (by kernel_rfl) (by kernel_rfl) ?_;intro W kv;rw[← kv]at hB mj c0 c1 c2 c3 c4 d0 d1 d2 d3 d4;simp only[List.take_succ_cons,List.take_zero,List.drop_succ_cons,List.drop_zero];clear kv;have F3:(0:Int)≤(j:Int):=by omega
    have GI:(j:Int)<(l.length:Int):=by omega
    have Hq:(0:Int)≤(j:Int)+1:=by omega
    have GB:IntKind.i64.wrap (j:Int)=(j:Int):=j4 _ (by omega) (by omega);repeat still_step
    refine wpStill_nil ?_;go_wp2_with (go_at_call 95;refine(HX.out _).mono ?_;rintro e w2 ⟨rfl,aA⟩)
    go_ret;exact⟨Pl.ae HE.out.symm,aa mj.out aA⟩
  ·have HE:Hid (R=true):=by
    show R=true;rw[HR.out];have:j=l.length - 1:=by omega
    rw[this]at HQ;exact HQ.out
   go_wp2;go_ret;exact⟨Pl.ae HE.out.symm,hW⟩
set_option maxRecDepth 8000
set_option maxHeartbeats 40000000
open Go.RowKit Go.Deep
theorem Iu (B:Nat) (l:List Ob) (t0 t1:ByteArray) (p2 p3 p4 p5 p6:Value) (p:Nat) (w:World) (h:fX w B l) (hp:p≤l.length) (h1:∀ i,i<p→two (l.getD i Ob.none).kind (l.getD i Ob.none).name t0 t1<0) (h2:∀ i,p≤i→i<l.length→0≤two (l.getD i Ob.none).kind (l.getD i Ob.none).name t0 t1):
  Calls Tryz.prog 187 #[.slice (some ⟨B,0,none⟩) l.length l.length,.agg #[.string t0,.string t1,p2,p3,p4,p5,p6],.func (.func 85) #[] #[]] w fun e w'=>e=.returned (.tuple #[.int .i64 (p:Nat),.bool (decide (p<l.length)&&decide (two (l.getD p Ob.none).kind (l.getD p Ob.none).name t0 t1=0))])∧Bel w w':=by
 have hl:=h.len;have HH:=hid (And.intro h (And.intro h1 h2));obtain⟨R,hR⟩:∃ R,R=(decide (p<l.length)&&decide (two (l.getD p Ob.none).kind (l.getD p Ob.none).name t0 t1=0)):=⟨_,rfl⟩
 have HR:=hid hR;rw[← hR];clear h h1 h2 hR;have HY:Hid (∀ W,Below (w.alloc (.cells #[.string t0,.string t1,p2,p3,p4,p5,p6] 111)).heap.size (w.alloc (.cells #[.string t0,.string t1,p2,p3,p4,p5,p6] 111)) W→w.heap.size<W.heap.size∧∀ j,W.cell? ⟨w.heap.size,j,none⟩=(#[.string t0,.string t1,p2,p3,p4,p5,p6]:Array Value)[j]?):=by
  intro W hW;have q:w.heap.size<(w.alloc (.cells #[.string t0,.string t1,p2,p3,p4,p5,p6] 111)).heap.size:=by simp
  exact⟨lo q hW.size,fun j=>(hW.cell (p:=⟨w.heap.size,j,none⟩) q).trans (World.cell?_alloc_at _ _ _ _ rfl)⟩
 have HC:Hid (∀ (W:World) (x:Ob) (b1 b2:Nat),Calls Tryz.prog 85 #[.agg #[.string x.kind,.string x.name,.string x.team,.slice (some ⟨b1,0,none⟩) x.values.length x.values.length,.bool x.ending,.slice (some ⟨b2,0,none⟩) x.holds.length x.holds.length,.int .i64 x.version],.agg #[.string t0,.string t1,p2,p3,p4,p5,p6]] W fun e w'=>e=.returned (.int .i64 (two (x).kind (x).name t0 t1))∧Bel W w'):=fun W x b1 b2=>Ba _ _ _ _ _ _ _ _ _ _ _ _ _ _ W;go_enter Tryz.func187,Tryz.ntmps187
 go_wp2;go_loopw [9,10] (fun i j wr=>∃ a b:Nat,i=.int .i64 (a:Nat)∧j=.int .i64 (b:Nat)∧a≤p∧p≤b∧b≤l.length∧Below (w.alloc (.cells #[.string t0,.string t1,p2,p3,p4,p5,p6] 111)).heap.size (w.alloc (.cells #[.string t0,.string t1,p2,p3,p4,p5,p6] 111)) wr) (fun i j _=>(intOf j).toNat - (intOf i).toNat)
 case atStart=>exact⟨0,l.length,rfl,rfl,nz,hp,nr,br⟩
 case round=>
  obtain⟨a,b,rfl,rfl,ha,hb,gW,hW⟩:=hrel;have DX:Hid (Bel w wr):=aa (ab br _) hW;have G8:=hid hW;clear hW;by_cases av:a<b
  ·obtain⟨m,hm⟩:∃ m,m=(a+b) / 2:=⟨_,rfl⟩
   have gB:a≤m:=by omega
   have hH:m<b:=by omega
   obtain⟨x,hx⟩:∃ x,x=l.getD m Ob.none:=⟨_,rfl⟩
   obtain⟨yz,ys⟩:=HY.out _ G8.out.drew;have y0:wr.drew.cell? ⟨w.heap.size,0,none⟩=some (.string t0):=ys 0;have y1:wr.drew.cell? ⟨w.heap.size,1,none⟩=some (.string t1):=ys 1;have y2:wr.drew.cell? ⟨w.heap.size,2,none⟩=some (p2):=ys 2;have y3:wr.drew.cell? ⟨w.heap.size,3,none⟩=some (p3):=ys 3;have y4:wr.drew.cell? ⟨w.heap.size,4,none⟩=some (p4):=ys 4;have y5:wr.drew.cell? ⟨w.heap.size,5,none⟩=some (p5):=ys 5;have y6:wr.drew.cell? ⟨w.heap.size,6,none⟩=some (p6):=ys 6;clear ys;have bA:=HH.out.1.later DX.out.drew;have hB:=bA.lt;have dO:=bA.at_ m (by omega);rw[← hx]at dO;obtain⟨b1,b2,_,c0,c1,c2,c3,c4,c5,c6,_⟩:=dO;obtain⟨r,hr⟩:∃ r,r=two (x).kind (x).name t0 t1:=⟨_,rfl⟩
   have HX:Hid (∀ W,Calls Tryz.prog 85 #[.agg #[.string x.kind,.string x.name,.string x.team,.slice (some ⟨b1,0,none⟩) x.values.length x.values.length,.bool x.ending,.slice (some ⟨b2,0,none⟩) x.holds.length x.holds.length,.int .i64 x.version],.agg #[.string t0,.string t1,p2,p3,p4,p5,p6]] W fun e w'=>e=.returned (.int .i64 r)∧Bel W w'):=fun W=>by rw[hr];exact HC.out W x b1 b2
   have HP:Hid ((r<0→m<p)∧(¬ r<0→p≤m)):=by
    refine⟨fun hz=> ?_,fun hz=> ?_⟩
    ·refine Nat.lt_of_not_le fun hh=> ?_;have:=HH.out.2.2 m hh (by omega);rw[← hx,← hr]at this;omega
    ·refine Nat.le_of_not_lt fun hh=> ?_;have:=HH.out.2.1 m hh;rw[← hx,← hr]at this;exact hz this
   have tx:Hid (((a:Int)+(b:Int)) / 2=(m:Int)):=by show _=_;omega
   clear hr bA hx hm;have mj:=hid G8.out.drew;have BJ:(0:Int)≤(m:Int):=by omega
   have EJ:(m:Int)<(l.length:Int):=by omega
   by_cases hz:r<0
   ·have HE:Hid (m<p):=HP.out.1 hz;go_wp2_with fail
    rw[tx.out];refine bH 6 (by kernel_rfl) (by kernel_rfl) ?_;intro W kv;rw[← kv]at hB mj yz y0 y1 y2 y3 y4 y5 y6 c0 c1 c2 c3 c4 c5 c6;simp only[List.take_succ_cons,List.take_zero,List.drop_succ_cons,List.drop_zero];clear kv;repeat still_step
    refine wpStill_nil ?_;go_wp2_with (go_at_call 85;refine(HX.out _).mono ?_;rintro e w2 ⟨rfl,aA⟩)
    go_roundw
    case rel=>exact⟨m+1,b,by go_num,rfl,HE.out,hb,gW,aa mj.out aA⟩
    case measure=>simp[intOf];omega
   ·have HE:Hid (p≤m):=HP.out.2 hz;have hz':0≤r:=by omega
    go_wp2_with fail
    rw[tx.out];refine bH 6 (by kernel_rfl) (by kernel_rfl) ?_;intro W kv;rw[← kv]at hB mj yz y0 y1 y2 y3 y4 y5 y6 c0 c1 c2 c3 c4 c5 c6;simp only[List.take_succ_cons,List.take_zero,List.drop_succ_cons,List.drop_zero];clear kv;repeat still_step
    refine wpStill_nil ?_;go_wp2_with (go_at_call 85;refine(HX.out _).mono ?_;rintro e w2 ⟨rfl,aA⟩)
    go_roundw
    case rel=>exact⟨a,m,rfl,rfl,ha,HE.out,by omega,aa mj.out aA⟩
    case measure=>simp[intOf];omega
  ·obtain rfl:a=p:=by omega
   obtain rfl:b=a:=by omega
   by_cases eI:b<l.length
   ·obtain⟨x,hx⟩:∃ x,x=l.getD b Ob.none:=⟨_,rfl⟩
    obtain⟨yz,ys⟩:=HY.out _ G8.out;have y0:wr.cell? ⟨w.heap.size,0,none⟩=some (.string t0):=ys 0;have y1:wr.cell? ⟨w.heap.size,1,none⟩=some (.string t1):=ys 1;have y2:wr.cell? ⟨w.heap.size,2,none⟩=some (p2):=ys 2;have y3:wr.cell? ⟨w.heap.size,3,none⟩=some (p3):=ys 3;have y4:wr.cell? ⟨w.heap.size,4,none⟩=some (p4):=ys 4;have y5:wr.cell? ⟨w.heap.size,5,none⟩=some (p5):=ys 5;have y6:wr.cell? ⟨w.heap.size,6,none⟩=some (p6):=ys 6;clear ys;have bA:=HH.out.1.later DX.out;have hB:=bA.lt;have dO:=bA.at_ b eI;rw[← hx]at dO;obtain⟨b1,b2,_,c0,c1,c2,c3,c4,c5,c6,_⟩:=dO;obtain⟨r,hr⟩:∃ r,r=two (x).kind (x).name t0 t1:=⟨_,rfl⟩
    have HX:Hid (∀ W,Calls Tryz.prog 85 #[.agg #[.string x.kind,.string x.name,.string x.team,.slice (some ⟨b1,0,none⟩) x.values.length x.values.length,.bool x.ending,.slice (some ⟨b2,0,none⟩) x.holds.length x.holds.length,.int .i64 x.version],.agg #[.string t0,.string t1,p2,p3,p4,p5,p6]] W fun e w'=>e=.returned (.int .i64 r)∧Bel W w'):=fun W=>by rw[hr];exact HC.out W x b1 b2
    have fg:Hid (R=decide (r=0)):=by show R=_;rw[HR.out,hr,hx];simp[eI]
    clear hr bA hx;have tE:=dR wr;have ny:∀ px:Pst wr,B<px.W.heap.size:=fun px=>px.size hB;have Gt:∀ px:Pst wr,w.heap.size<px.W.heap.size:=fun px=>px.size yz;have Y0:∀ px:Pst wr,px.W.cell? ⟨w.heap.size,0,none⟩=some (.string t0):=fun px=>px.cell y0 yz;have Y1:∀ px:Pst wr,px.W.cell? ⟨w.heap.size,1,none⟩=some (.string t1):=fun px=>px.cell y1 yz;have Y2:∀ px:Pst wr,px.W.cell? ⟨w.heap.size,2,none⟩=some (p2):=fun px=>px.cell y2 yz;have Y3:∀ px:Pst wr,px.W.cell? ⟨w.heap.size,3,none⟩=some (p3):=fun px=>px.cell y3 yz;have Y4:∀ px:Pst wr,px.W.cell? ⟨w.heap.size,4,none⟩=some (p4):=fun px=>px.cell y4 yz;have Y5:∀ px:Pst wr,px.W.cell? ⟨w.heap.size,5,none⟩=some (p5):=fun px=>px.cell y5 yz;have Y6:∀ px:Pst wr,px.W.cell? ⟨w.heap.size,6,none⟩=some (p6):=fun px=>px.cell y6 yz;have C0:∀ px:Pst wr,px.W.cell? ⟨B,b*7,none⟩=some (.string x.kind):=fun px=>px.cell c0 hB;have C1:∀ px:Pst wr,px.W.cell? ⟨B,b*7+1,none⟩=some (.string x.name):=fun px=>px.cell c1 hB;have C2:∀ px:Pst wr,px.W.cell? ⟨B,b*7+2,none⟩=some (.string x.team):=fun px=>px.cell c2 hB;have C3:∀ px:Pst wr,px.W.cell? ⟨B,b*7+3,none⟩=some (.slice (some ⟨b1,0,none⟩) x.values.length x.values.length):=fun px=>px.cell c3 hB;have C4:∀ px:Pst wr,px.W.cell? ⟨B,b*7+4,none⟩=some (.bool x.ending):=fun px=>px.cell c4 hB;have C5:∀ px:Pst wr,px.W.cell? ⟨B,b*7+5,none⟩=some (.slice (some ⟨b2,0,none⟩) x.holds.length x.holds.length):=fun px=>px.cell c5 hB;have C6:∀ px:Pst wr,px.W.cell? ⟨B,b*7+6,none⟩=some (.int .i64 x.version):=fun px=>px.cell c6 hB;have BJ:(0:Int)≤(b:Int):=by omega
    have EJ:(b:Int)<(l.length:Int):=by omega
    clear y0 y1 y2 y3 y4 y5 y6 c0 c1 c2 c3 c4 c5 c6 hB yz;by_cases hz:r=0
    all_goals
     have HE:=hid fg.out;go_wp2_with fail
     refine au wr br (by kernel_rfl) (by kernel_rfl) ?_;repeat(first
      |go_big_quiet_skip
      |(go_big_quiet_want;go_big_quiet_op;first|go_big_quiet_on|(apply Exists.intro;refine⟨fun px=> ?_, ?_⟩;(focus(go_at_call 85;refine(HX.out _).mono ?_;rintro e w' ⟨he,hb⟩;exact⟨he,⟨w',aa px.ok hb⟩,rfl⟩));go_big_quiet_on)))
     refine wpQuiet_nil ?_;intro _ dN;obtain⟨x6,aX⟩:=dN;subst aX;go_wp2;go_ret2;exact⟨by rw[HE.out];simp[hz],aa DX.out x6.ok⟩
   ·have HE:Hid (R=false):=by show _=_;rw[HR.out];simp[eI]
    have tE:=dR wr;go_wp2_with fail
    refine au wr br (by kernel_rfl) (by kernel_rfl) ?_;repeat(first
     |go_big_quiet_skip
     |(go_big_quiet_want;go_big_quiet_op;go_big_quiet_on))
    refine wpQuiet_nil ?_;intro _ dN;obtain⟨x6,aX⟩:=dN;subst aX;go_wp2;go_ret2;refine⟨?_,aa DX.out x6.ok⟩;rw[HE.out];have:b=l.length:=by omega
    simp[this]
theorem IC (B:Nat) (l:List Lg) (t0 t1:ByteArray) (p2 p3:Value) (p:Nat) (w:World) (h:gV w B l) (hp:p≤l.length) (h1:∀ i,i<p→two (l.getD i Lg.none).team (l.getD i Lg.none).res t0 t1<0) (h2:∀ i,p≤i→i<l.length→0≤two (l.getD i Lg.none).team (l.getD i Lg.none).res t0 t1):
  Calls Tryz.prog 149 #[.slice (some ⟨B,0,none⟩) l.length l.length,.agg #[.string t0,.string t1,p2,p3],.func (.func 92) #[] #[]] w fun e w'=>e=.returned (.tuple #[.int .i64 (p:Nat),.bool (decide (p<l.length)&&decide (two (l.getD p Lg.none).team (l.getD p Lg.none).res t0 t1=0))])∧Bel w w':=by
 have hl:=h.len;have HH:=hid (And.intro h (And.intro h1 h2));obtain⟨R,hR⟩:∃ R,R=(decide (p<l.length)&&decide (two (l.getD p Lg.none).team (l.getD p Lg.none).res t0 t1=0)):=⟨_,rfl⟩
 have HR:=hid hR;rw[← hR];clear h h1 h2 hR;have HY:Hid (∀ W,Below (w.alloc (.cells #[.string t0,.string t1,p2,p3] 131)).heap.size (w.alloc (.cells #[.string t0,.string t1,p2,p3] 131)) W→w.heap.size<W.heap.size∧∀ j,W.cell? ⟨w.heap.size,j,none⟩=(#[.string t0,.string t1,p2,p3]:Array Value)[j]?):=by
  intro W hW;have q:w.heap.size<(w.alloc (.cells #[.string t0,.string t1,p2,p3] 131)).heap.size:=by simp
  exact⟨lo q hW.size,fun j=>(hW.cell (p:=⟨w.heap.size,j,none⟩) q).trans (World.cell?_alloc_at _ _ _ _ rfl)⟩
 have HC:Hid (∀ (W:World) (x:Lg) (b1 b2:Nat),Calls Tryz.prog 92 #[.agg #[.string x.team,.string x.res,.int .i64 x.most,.int .i64 x.free],.agg #[.string t0,.string t1,p2,p3]] W fun e w'=>e=.returned (.int .i64 (two (x).team (x).res t0 t1))∧Bel W w'):=fun W x b1 b2=>Ad _ _ _ _ _ _ _ _ W;go_enter Tryz.func149,Tryz.ntmps149
 go_wp2;go_loopw [9,10] (fun i j wr=>∃ a b:Nat,i=.int .i64 (a:Nat)∧j=.int .i64 (b:Nat)∧a≤p∧p≤b∧b≤l.length∧Below (w.alloc (.cells #[.string t0,.string t1,p2,p3] 131)).heap.size (w.alloc (.cells #[.string t0,.string t1,p2,p3] 131)) wr) (fun i j _=>(intOf j).toNat - (intOf i).toNat)
 case atStart=>exact⟨0,l.length,rfl,rfl,nz,hp,nr,br⟩
 case round=>
  obtain⟨a,b,rfl,rfl,ha,hb,gW,hW⟩:=hrel;have DX:Hid (Bel w wr):=aa (ab br _) hW;have G8:=hid hW;clear hW;by_cases av:a<b
  ·obtain⟨m,hm⟩:∃ m,m=(a+b) / 2:=⟨_,rfl⟩
   have gB:a≤m:=by omega
   have hH:m<b:=by omega
   obtain⟨x,hx⟩:∃ x,x=l.getD m Lg.none:=⟨_,rfl⟩
   obtain⟨yz,ys⟩:=HY.out _ G8.out.drew;have y0:wr.drew.cell? ⟨w.heap.size,0,none⟩=some (.string t0):=ys 0;have y1:wr.drew.cell? ⟨w.heap.size,1,none⟩=some (.string t1):=ys 1;have y2:wr.drew.cell? ⟨w.heap.size,2,none⟩=some (p2):=ys 2;have y3:wr.drew.cell? ⟨w.heap.size,3,none⟩=some (p3):=ys 3;clear ys;have bA:=HH.out.1.later DX.out.drew;have hB:=bA.lt;have dO:=bA.at_ m (by omega);rw[← hx]at dO;obtain⟨c0,c1,c2,c3,_⟩:=dO;obtain⟨r,hr⟩:∃ r,r=two (x).team (x).res t0 t1:=⟨_,rfl⟩
   have HX:Hid (∀ W,Calls Tryz.prog 92 #[.agg #[.string x.team,.string x.res,.int .i64 x.most,.int .i64 x.free],.agg #[.string t0,.string t1,p2,p3]] W fun e w'=>e=.returned (.int .i64 r)∧Bel W w'):=fun W=>by rw[hr];exact HC.out W x 0 0
   have HP:Hid ((r<0→m<p)∧(¬ r<0→p≤m)):=by
    refine⟨fun hz=> ?_,fun hz=> ?_⟩
    ·refine Nat.lt_of_not_le fun hh=> ?_;have:=HH.out.2.2 m hh (by omega);rw[← hx,← hr]at this;omega
    ·refine Nat.le_of_not_lt fun hh=> ?_;have:=HH.out.2.1 m hh;rw[← hx,← hr]at this;exact hz this
   have tx:Hid (((a:Int)+(b:Int)) / 2=(m:Int)):=by show _=_;omega
   clear hr bA hx hm;have mj:=hid G8.out.drew;have BJ:(0:Int)≤(m:Int):=by omega
   have EJ:(m:Int)<(l.length:Int):=by omega
   by_cases hz:r<0
   ·have HE:Hid (m<p):=HP.out.1 hz;go_wp2_with fail
    rw[tx.out];refine bH 6 (by kernel_rfl) (by kernel_rfl) ?_;intro W kv;rw[← kv]at hB mj yz y0 y1 y2 y3 c0 c1 c2 c3;simp only[List.take_succ_cons,List.take_zero,List.drop_succ_cons,List.drop_zero];clear kv;repeat still_step
    refine wpStill_nil ?_;go_wp2_with (go_at_call 92;refine(HX.out _).mono ?_;rintro e w2 ⟨rfl,aA⟩)
    go_roundw
    case rel=>exact⟨m+1,b,by go_num,rfl,HE.out,hb,gW,aa mj.out aA⟩
    case measure=>simp[intOf];omega
   ·have HE:Hid (p≤m):=HP.out.2 hz;have hz':0≤r:=by omega
    go_wp2_with fail
    rw[tx.out];refine bH 6 (by kernel_rfl) (by kernel_rfl) ?_;intro W kv;rw[← kv]at hB mj yz y0 y1 y2 y3 c0 c1 c2 c3;simp only[List.take_succ_cons,List.take_zero,List.drop_succ_cons,List.drop_zero];clear kv;repeat still_step
    refine wpStill_nil ?_;go_wp2_with (go_at_call 92;refine(HX.out _).mono ?_;rintro e w2 ⟨rfl,aA⟩)
    go_roundw
    case rel=>exact⟨a,m,rfl,rfl,ha,HE.out,by omega,aa mj.out aA⟩
    case measure=>simp[intOf];omega
  ·obtain rfl:a=p:=by omega
   obtain rfl:b=a:=by omega
   by_cases eI:b<l.length
   ·obtain⟨x,hx⟩:∃ x,x=l.getD b Lg.none:=⟨_,rfl⟩
    obtain⟨yz,ys⟩:=HY.out _ G8.out;have y0:wr.cell? ⟨w.heap.size,0,none⟩=some (.string t0):=ys 0;have y1:wr.cell? ⟨w.heap.size,1,none⟩=some (.string t1):=ys 1;have y2:wr.cell? ⟨w.heap.size,2,none⟩=some (p2):=ys 2;have y3:wr.cell? ⟨w.heap.size,3,none⟩=some (p3):=ys 3;clear ys;have bA:=HH.out.1.later DX.out;have hB:=bA.lt;have dO:=bA.at_ b eI;rw[← hx]at dO;obtain⟨c0,c1,c2,c3,_⟩:=dO;obtain⟨r,hr⟩:∃ r,r=two (x).team (x).res t0 t1:=⟨_,rfl⟩
    have HX:Hid (∀ W,Calls Tryz.prog 92 #[.agg #[.string x.team,.string x.res,.int .i64 x.most,.int .i64 x.free],.agg #[.string t0,.string t1,p2,p3]] W fun e w'=>e=.returned (.int .i64 r)∧Bel W w'):=fun W=>by rw[hr];exact HC.out W x 0 0
    have fg:Hid (R=decide (r=0)):=by show R=_;rw[HR.out,hr,hx];simp[eI]
    clear hr bA hx;have tE:=dR wr;have ny:∀ px:Pst wr,B<px.W.heap.size:=fun px=>px.size hB;have Gt:∀ px:Pst wr,w.heap.size<px.W.heap.size:=fun px=>px.size yz;have Y0:∀ px:Pst wr,px.W.cell? ⟨w.heap.size,0,none⟩=some (.string t0):=fun px=>px.cell y0 yz;have Y1:∀ px:Pst wr,px.W.cell? ⟨w.heap.size,1,none⟩=some (.string t1):=fun px=>px.cell y1 yz;have Y2:∀ px:Pst wr,px.W.cell? ⟨w.heap.size,2,none⟩=some (p2):=fun px=>px.cell y2 yz;have Y3:∀ px:Pst wr,px.W.cell? ⟨w.heap.size,3,none⟩=some (p3):=fun px=>px.cell y3 yz;have C0:∀ px:Pst wr,px.W.cell? ⟨B,b*4,none⟩=some (.string x.team):=fun px=>px.cell c0 hB;have C1:∀ px:Pst wr,px.W.cell? ⟨B,b*4+1,none⟩=some (.string x.res):=fun px=>px.cell c1 hB;have C2:∀ px:Pst wr,px.W.cell? ⟨B,b*4+2,none⟩=some (.int .i64 x.most):=fun px=>px.cell c2 hB;have C3:∀ px:Pst wr,px.W.cell? ⟨B,b*4+3,none⟩=some (.int .i64 x.free):=fun px=>px.cell c3 hB;have BJ:(0:Int)≤(b:Int):=by omega
    have EJ:(b:Int)<(l.length:Int):=by omega
    clear y0 y1 y2 y3 c0 c1 c2 c3 hB yz;by_cases hz:r=0
    all_goals
     have HE:=hid fg.out;go_wp2_with fail
     refine au wr br (by kernel_rfl) (by kernel_rfl) ?_;repeat(first
      |go_big_quiet_skip
      |(go_big_quiet_want;go_big_quiet_op;first|go_big_quiet_on|(apply Exists.intro;refine⟨fun px=> ?_, ?_⟩;(focus(go_at_call 92;refine(HX.out _).mono ?_;rintro e w' ⟨he,hb⟩;exact⟨he,⟨w',aa px.ok hb⟩,rfl⟩));go_big_quiet_on)))
     refine wpQuiet_nil ?_;intro _ dN;obtain⟨x6,aX⟩:=dN;subst aX;go_wp2;go_ret2;exact⟨by rw[HE.out];simp[hz],aa DX.out x6.ok⟩
   ·have HE:Hid (R=false):=by show _=_;rw[HR.out];simp[eI]
    have tE:=dR wr;go_wp2_with fail
    refine au wr br (by kernel_rfl) (by kernel_rfl) ?_;repeat(first
     |go_big_quiet_skip
     |(go_big_quiet_want;go_big_quiet_op;go_big_quiet_on))
    refine wpQuiet_nil ?_;intro _ dN;obtain⟨x6,aX⟩:=dN;subst aX;go_wp2;go_ret2;refine⟨?_,aa DX.out x6.ok⟩;rw[HE.out];have:b=l.length:=by omega
    simp[this]
end Go.Proofs.YtbiokpmdghmgcaaGreat
