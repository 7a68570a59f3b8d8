/-
  Big1, Big2, Big3.
-/
import Derived.Test.YtjpnnmkefaodoaaGreatyTyNy
import Derived.Test.YtjpnnmkefaodoaaGreatRows
import Derived.WalkSpells
import Derived.WalkLawsBesides
import Derived.WalkSmall
import Derived.Deep.LoopGhost
set_option maxHeartbeats 8000000
set_option maxRecDepth 100000
namespace Go.Proofs.YtjpnnmkefaodoaaGreat
open Go.RowKit
set_option linter.unusedSimpArgs false
set_option linter.unusedVariables false
def Row (w:World)(v:Value)(L:List Int):Prop :=
 (v=.slice none 0 0∧L=[])∨∃ d cap cs fz,v=.slice (some ⟨d,0,none⟩) L.length cap∧L.length≤cap∧cap≤maxLen∧w.heap[d]?=some (.cells cs 159 fz)∧∀ j,j<L.length→cs[j]?=some (.int .u32 (L.getD j 0))
theorem Row.step {w w':World}{v:Value}{L:List Int}(h:Row w v L)(k:Below w.heap.size w w'):Row w' v L:=by
 rcases h with h|⟨d,cap,cs,fz,h1,h2,h3,h4,h5⟩
 ·exact .inl h
 ·exact .inr ⟨d,cap,cs,fz,h1,h2,h3,by rw[k.block d (Array.getElem?_eq_some_iff.1 h4).1];exact h4,h5⟩
theorem Row.nil (w:World):Row w (.slice none 0 0) []:=.inl ⟨rfl,rfl⟩
theorem Row.at {w:World}{v:Value}{L:List Int}(h:Row w v L):∃ ao cap,v=.slice ao L.length cap∧L.length≤cap∧cap≤maxLen∧(ao=none→cap=0)∧(∀ d o p,ao=some ⟨d,o,p⟩→o=0∧p=none∧d<w.heap.size)∧(L.length≠0→∃ d,ao=some ⟨d,0,none⟩)∧(∀ d,ao=some ⟨d,0,none⟩→∀ j,j<L.length→w.cell? ⟨d,j,none⟩=some (.int .u32 (L.getD j 0))):=by
 rcases h with ⟨rfl,rfl⟩|⟨d,cap,cs,fz,rfl,h2,h3,h4,h5⟩
 ·exact⟨none,0,rfl,Nat.le_refl _,Nat.zero_le _,fun _=>rfl,(fun d o p h=>by cases h),fun h=>absurd rfl h,fun d h=>by cases h⟩
 ·refine⟨_,cap,rfl,h2,h3,(fun h=>by cases h),?_,fun _=>⟨d,rfl⟩,?_⟩
  ·intro d' o p e
   cases e
   exact⟨rfl,rfl,(Array.getElem?_eq_some_iff.1 h4).1⟩
  ·intro d' e j hj
   cases e
   have:=h5 j hj
   simp[World.cell?,h4,this]
theorem Row.take {w:World}{ao:Option Addr}{cap:Nat}{L:List Int}(h:Row w (.slice ao L.length cap) L)(n:Nat)(hn:n≤L.length):Row w (.slice ao n cap) (L.take n):=by
 have hl:(L.take n).length=n:=by rw[List.length_take];omega
 rcases h with ⟨h1,rfl⟩|⟨d,cap',cs,fz,h1,h2,h3,h4,h5⟩
 ·left
  simp at h1 hn
  obtain⟨rfl,rfl⟩:=h1
  subst hn
  simp
 ·cases h1
  refine .inr ⟨d,cap,cs,fz,by rw[hl],by omega,h3,h4,fun j hj=>?_⟩
  rw[h5 j (by omega),List.getD_eq_getElem?_getD,List.getD_eq_getElem?_getD,List.getElem?_take,if_pos (by omega)]
theorem Row.box {w:World}{d:Nat}{L:List Int}{cs:Array Value}{fz:Nat × Nat}(h:w.heap[d]?=some (.cells cs 159 fz))(hs:cs.size=L.length)(hc:∀ j,j<L.length→cs[j]?=some (.int .u32 (L.getD j 0)))(hm:L.length≤maxLen):Row w (.slice (some ⟨d,0,none⟩) L.length L.length) L :=
 .inr ⟨d,_,cs,fz,rfl,Nat.le_refl _,hm,h,hc⟩
def Dg (w:World)(v:Value)(n:Int):Prop:=∃ L,Row w v L∧Is L n
theorem Dg.step {w w':World}{v:Value}{n:Int}(h:Dg w v n)(k:Below w.heap.size w w'):Dg w' v n:=by
 obtain⟨L,h1,h2⟩:=h
 exact⟨L,h1.step k,h2⟩
theorem Dg.nil (w:World):Dg w (.slice none 0 0) 0:=⟨[],Row.nil w,is_nil⟩
def Own32 (w:World)(d:Nat)(R:List Int):Prop:=∃ cs,w.heap[d]?=some (.cells cs 159)∧cs.size=R.length∧∀ j,j<R.length→cs[j]?=some (.int .u32 (R.getD j 0))
theorem Own32.lt {w:World}{d:Nat}{R:List Int}(h:Own32 w d R):d<w.heap.size:=by
 obtain⟨cs,h1,_⟩:=h
 exact (Array.getElem?_eq_some_iff.1 h1).1
theorem Own32.cell {w:World}{d:Nat}{R:List Int}(h:Own32 w d R)(j:Nat)(hj:j<R.length):w.cell? ⟨d,j,none⟩=some (.int .u32 (R.getD j 0)):=by
 obtain⟨cs,h1,_,h3⟩:=h
 simp[World.cell?,h1,h3 j hj]
theorem Own32.frozen {w:World}{d:Nat}{R:List Int}(h:Own32 w d R)(j:Nat):w.frozen? ⟨d,j,none⟩=false:=by
 obtain⟨cs,h1,_⟩:=h
 simp[World.frozen?,h1]
theorem Own32.step {w w':World}{d:Nat}{R:List Int}(h:Own32 w d R)(k:Below w.heap.size w w'):Own32 w' d R:=by
 have:=h.lt
 obtain⟨cs,h1,h2⟩:=h
 exact⟨cs,by rw[k.block d this];exact h1,h2⟩
theorem Own32.row {w:World}{d:Nat}{R:List Int}(h:Own32 w d R)(hm:R.length≤maxLen):Row w (.slice (some ⟨d,0,none⟩) R.length R.length) R:=by
 obtain⟨cs,h1,h2,h3⟩:=h
 exact Row.box h1 h2 h3 hm
theorem Own32.set {w:World}{d:Nat}{R:List Int}(h:Own32 w d R)(j:Nat)(x:Int)(hj:j<R.length):Own32 (w.setCell ⟨d,j,none⟩ (.int .u32 x)) d (R.set j x):=by
 obtain⟨cs,h1,h2,h3⟩:=h
 refine⟨cs.setIfInBounds j (.int .u32 x),?_,by simp[h2],fun i hi=>?_⟩
 ·simp[World.setCell,Array.getElem?_modify,h1]
 ·rw[List.length_set] at hi
  by_cases e:j=i
  ·subst e
   rw[getD_set_self hj,Array.getElem?_setIfInBounds_self_of_lt (by omega)]
  ·rw[qal e,Array.getElem?_setIfInBounds_ne e];exact h3 i hi
theorem Own32.new (w:World)(n:Nat):Own32 (w.alloc (.cells (madeCells #[.int .u32 0] n) 159)) w.heap.size (List.replicate n 0):=by
 have hm:madeCells #[.int .u32 0] n=Array.replicate n (.int .u32 0):=by
  apply Array.ext'
  have:(fun x:Nat=>([Value.int IntKind.u32 0][x % 1]?).getD default)=fun _=>Value.int IntKind.u32 0:=by funext x;simp[Nat.mod_one]
  simp[madeCells,this,List.map_const']
 rw[hm]
 refine⟨Array.replicate n (.int .u32 0),?_,by simp,fun j hj=>?_⟩
 ·show (w.heap.push _)[w.heap.size]?=_
  simp
 simp at hj
 simp[hj]
theorem qbf (w:World)(v:Value)(L:List Int)(hr:Row w v L)(hw:Wds L)(hl:L.length≤1000) :
  Calls Tryz.prog 146 #[v] w fun e w'=>w'=w∧∃ v',e=.returned v'∧Dg w v' (vl L):=by
 obtain⟨ao,cap,rfl,hc1,hc2,hc3,hc4,hc5,hc6⟩:=hr.at
 have HR:=zX hr
 have HW:=zX hw
 have H5:=zX hc5
 have H6:=zX hc6
 clear hr hw hc3 hc4 hc5 hc6
 go_enter Tryz.func146,Tryz.ntmps146
 go_wp2_with fail
 go_loopg [3] L.length (fun g t wr=>∃ n:Nat,n≤L.length∧g=n∧t=.int .i64 n∧wr=w∧Hid (∀ j,n≤j→L.getD j 0=0))
 case atStart=>exact⟨L.length,Nat.le_refl _,rfl,rfl,rfl,fun j hj=>by rw[List.getD_eq_getElem?_getD,List.getElem?_eq_none hj];rfl⟩
 case round =>
  obtain⟨n,hn,hg,rfl,rfl,hz⟩:=hrel
  have IZ:=zX (show (n=0∨L.getD (n - 1) 0≠0)→Dg wr (.slice ao n cap) (vl L) from fun h=>⟨L.take n,(uX HR).take n hn,take_norm (uX HW) n hn (uX hz) h⟩)
  by_cases h0:n=0
  ·subst h0
   have b0:decide ((0:Int)<((0:Nat):Int))=false:=by simp
   go_wp2_with fail
   go_ret
   exact⟨rfl,_,rfl,(uX IZ) (by simp)⟩
  ·obtain⟨d,rfl⟩:=uX H5 (by omega)
   obtain⟨m,rfl⟩:∃ m,n=m+1:=⟨n - 1,by omega⟩
   have b0:decide ((0:Int)<((m+1:Nat):Int))=true:=by simp
   have c0:=uX H6 d rfl m (by omega)
   have e1:(((m+1:Nat):Int) - 1)=(m:Int):=by omega
   have hm1:(m:Int)<(L.length:Int):=by omega
   by_cases hx:L.getD m 0=0
   ·rw[hx] at c0
    have HX:=zX hx
    clear hx
    go_wp2_with fail
    go_roundg m
    case measure=>omega
    case rel=>exact⟨m,by omega,rfl,by go_num,rfl,fun j hj=>by
     by_cases e:j=m
     ·rw[e];exact uX HX
     ·exact uX hz j (by omega)⟩
   ·have hxb:(L.getD m 0==0)=false:=by simpa using hx
    have HX:=zX hx
    clear hx
    generalize L.getD m 0=x at c0 hxb
    go_wp2_with fail
    go_ret
    exact⟨rfl,_,rfl,uX IZ (.inr (uX HX))⟩
theorem Row.two (w:World)(x y:Int):Row (w.alloc (.cells #[.int .u32 x,.int .u32 y] 159)) (.slice (some ⟨w.heap.size,0,none⟩) 2 2) [x,y]:=by
 refine .inr ⟨w.heap.size,2,#[.int .u32 x,.int .u32 y],(0,0),rfl,by simp,by decide,?_,fun j hj=>?_⟩
 ·show (w.heap.push _)[w.heap.size]?=_
  simp
 ·match j,hj with
  | 0,_=>rfl
  | 1,_=>rfl
theorem words_any (x:Int)(w:World)(hx:U x) :
  Calls Tryz.prog 145 #[.int .u64 x] w fun e w'=>Below w.heap.size w w'∧∃ v',e=.returned v'∧Dg w' v' x:=by
 obtain⟨h0,h1⟩:=hx
 have T:=zX (qbf _ _ _ (Row.two w (x % 4294967296) (x / 4294967296)) (by intro y hy;simp at hy;omega) (by simp))
 have KB:=zX (qaa w (.cells #[.int .u32 (x % 4294967296),.int .u32 (x / 4294967296)] 159))
 have e0:vl [x % 4294967296,x / 4294967296]=x:=by simp[vl];omega
 rw[e0] at T
 go_enter Tryz.func145,Tryz.ntmps145
 go_wp2_with fail
 refine (uX T).mono ?_
 rintro e w1 ⟨rfl,v1,rfl,D1⟩
 have HD:=zX D1
 clear D1
 go_wp2_with fail
 go_ret
 exact⟨uX KB,_,rfl,uX HD⟩
theorem Dg.at {w:World}{v:Value}{n:Int}(h:Dg w v n)(hn:n<4294967296 ^ 8):∃ ao cap L,v=.slice ao L.length cap∧Is L n∧L.length≤8∧Row w v L∧L.length≤cap∧(L.length≠0→∃ d,ao=some ⟨d,0,none⟩∧d<w.heap.size)∧(∀ d,ao=some ⟨d,0,none⟩→∀ j,j<L.length→w.cell? ⟨d,j,none⟩=some (.int .u32 (L.getD j 0))):=by
 obtain⟨L,h1,h2⟩:=h
 obtain⟨ao,cap,rfl,hc1,hc2,hc3,hc4,hc5,hc6⟩:=h1.at
 refine⟨ao,cap,L,rfl,h2,h2.len 8 hn,h1,hc1,fun h=>?_,hc6⟩
 obtain⟨d,hd⟩:=hc5 h
 exact⟨d,hd,(hc4 _ _ _ hd).2.2⟩
theorem is_two {L:List Int}{n:Int}(h:Is L n)(hn:n<18446744073709551616):n=L.getD 0 0+4294967296*L.getD 1 0∧(L.length=0→n=0)∧(L.length=1→n=L.getD 0 0)∧L.length≤2:=by
 have hl:=h.len 2 (by simpa using hn)
 have e:=h.2.2
 match L,hl with
 | [],_=>simp[vl] at e ⊢;omega
 | [x],_=>simp[vl] at e ⊢;omega
 | [x,y],_=>simp[vl] at e ⊢;omega
theorem or_two (x y:Int)(hx:0≤x∧x≤4294967295)(hy:0≤y∧y≤4294967295):bits .or .u64 x (y*4294967296)=x+4294967296*y:=by
 obtain⟨hx1,hx2⟩:=hx
 obtain⟨hy1,hy2⟩:=hy
 go_bits2
theorem plain_any (v:Value)(n:Int)(w:World)(h:Dg w v n)(hn:n<18446744073709551616) :
  Calls Tryz.prog 164 #[v] w fun e w'=>w'=w∧e=.returned (.int .u64 n):=by
 obtain⟨ao,cap,L,rfl,hI,hl8,hr,hc1,hd,hc⟩:=h.at (by omega)
 obtain⟨q1,q2,q3,q4⟩:=is_two hI hn
 have g0:=hI.1.get 0
 have g1:=hI.1.get 1
 have HC:=zX hc
 have HQ:=zX q1
 clear hr hI hc q1
 by_cases l0:L.length=0
 ·have:=q2 l0
  subst this
  rw[l0]
  go_enter Tryz.func164,Tryz.ntmps164
  go_wp2_with fail
  go_ret
  exact⟨rfl,rfl⟩
 ·obtain⟨d,rfl,hdl⟩:=hd l0
  have c0:=uX HC d rfl 0 (by omega)
  by_cases l1:L.length=1
  ·have:=q3 l1
   rw[l1]
   clear q3 q2 g1 hd h
   generalize L.getD 0 0=x at *
   subst this
   go_enter Tryz.func164,Tryz.ntmps164
   go_wp2_with fail
   go_ret
   exact⟨rfl,rfl⟩
  ·have l2:L.length=2:=by omega
   have c1:=uX HC d rfl 1 (by omega)
   have ho:=or_two _ _ g0 g1
   rw[← uX HQ] at ho
   rw[l2]
   generalize L.getD 0 0=x at *
   generalize L.getD 1 0=y at *
   go_enter Tryz.func164,Tryz.ntmps164
   go_wp2_with fail
   go_ret
   exact⟨rfl,rfl⟩
structure Tn (p:Nat)(w w':World):Prop where
 os:w'.os=w.os
 tape:w'.tape=w.tape
 output:w'.output=w.output
 size:w.heap.size≤w'.heap.size
 block:∀ k,k<w.heap.size→k≠p→w'.heap[k]?=w.heap[k]?
theorem Tn.refl (p:Nat)(w:World):Tn p w w:=⟨rfl,rfl,rfl,Nat.le_refl _,fun _ _ _=>rfl⟩
theorem Tn.trans {p:Nat}{a b c:World}(h:Tn p a b)(k:Tn p b c):Tn p a c :=
 ⟨k.os.trans h.os,k.tape.trans h.tape,k.output.trans h.output,Nat.le_trans h.size k.size,fun i hi hn=>(k.block i (Nat.lt_of_lt_of_le hi h.size) hn).trans (h.block i hi hn)⟩
theorem Tn.of {p:Nat}{w w':World}(h:Below w.heap.size w w'):Tn p w w':=⟨h.os,h.tape,h.output,h.size,fun k hk _=>h.block k hk⟩
theorem Tn.below {p B:Nat}{w w':World}(h:Tn p w w')(hp:B≤p)(hB:B≤w.heap.size):Below B w w':=⟨h.os,h.tape,h.output,h.size,fun k hk=>h.block k (by omega) (by omega)⟩
def IntAt (w:World)(p:Nat):Prop:=∃ s v,w.heap[p]?=some (.cells #[.bool s,v] 127)
def Big (w:World)(p:Nat)(z:Int):Prop:=∃ v,w.heap[p]?=some (.cells #[.bool (decide (z<0)),v] 127)∧Dg w v z.natAbs
theorem Big.int {w:World}{p:Nat}{z:Int}(h:Big w p z):IntAt w p:=by
 obtain⟨v,h1,_⟩:=h
 exact⟨_,v,h1⟩
theorem IntAt.lt {w:World}{p:Nat}(h:IntAt w p):p<w.heap.size:=by
 obtain⟨s,v,h1⟩:=h
 exact (Array.getElem?_eq_some_iff.1 h1).1
theorem Big.lt {w:World}{p:Nat}{z:Int}(h:Big w p z):p<w.heap.size:=h.int.lt
theorem Big.step {w w':World}{p:Nat}{z:Int}(h:Big w p z)(k:Below w.heap.size w w'):Big w' p z:=by
 have:=h.lt
 obtain⟨v,h1,h2⟩:=h
 exact⟨v,by rw[k.block p this];exact h1,h2.step k⟩
theorem IntAt.step {w w':World}{p:Nat}(h:IntAt w p)(k:Below w.heap.size w w'):IntAt w' p:=by
 have:=h.lt
 obtain⟨s,v,h1⟩:=h
 exact⟨s,v,by rw[k.block p this];exact h1⟩
theorem Row.tn {w w':World}{p:Nat}{v:Value}{L:List Int}(h:Row w v L)(k:Tn p w w')(hp:IntAt w p):Row w' v L:=by
 rcases h with h|⟨d,cap,cs,fz,h1,h2,h3,h4,h5⟩
 ·exact .inl h
 ·refine .inr ⟨d,cap,cs,fz,h1,h2,h3,?_,h5⟩
  rw[k.block d (Array.getElem?_eq_some_iff.1 h4).1 ?_];exact h4
  rintro rfl
  obtain⟨s,u,e⟩:=hp
  rw[h4] at e
  simp at e
theorem Dg.tn {w w':World}{p:Nat}{v:Value}{n:Int}(h:Dg w v n)(k:Tn p w w')(hp:IntAt w p):Dg w' v n:=by
 obtain⟨L,h1,h2⟩:=h
 exact⟨L,h1.tn k hp,h2⟩
theorem Big.tn {w w':World}{p q:Nat}{z:Int}(h:Big w q z)(k:Tn p w w')(hp:IntAt w p)(hq:q≠p):Big w' q z:=by
 have:=h.lt
 obtain⟨v,h1,h2⟩:=h
 exact⟨v,by rw[k.block q this hq];exact h1,h2.tn k hp⟩
theorem IntAt.tn {w w':World}{p q:Nat}(h:IntAt w q)(k:Tn p w w')(hq:q≠p):IntAt w' q:=by
 have:=h.lt
 obtain⟨s,v,h1⟩:=h
 exact⟨s,v,by rw[k.block q this hq];exact h1⟩
theorem Big.new (w:World):Big (w.alloc (.cells #[.bool false,.slice none 0 0] 127)) w.heap.size 0:=by
 refine⟨.slice none 0 0,?_,Dg.nil _⟩
 show (w.heap.push _)[w.heap.size]?=_
 simp
theorem Big.cells {w:World}{p:Nat}{z:Int}(h:Big w p z):∃ v,w.cell? ⟨p,0,none⟩=some (.bool (decide (z<0)))∧w.cell? ⟨p,1,none⟩=some v∧Dg w v z.natAbs∧p<w.heap.size:=by
 have hl:=h.lt
 obtain⟨v,h1,h2⟩:=h
 exact⟨v,by simp[World.cell?,h1],by simp[World.cell?,h1],h2,hl⟩
theorem IntAt.cells {w:World}{p:Nat}(h:IntAt w p):∃ s v,w.cell? ⟨p,0,none⟩=some (.bool s)∧w.cell? ⟨p,1,none⟩=some v∧w.frozen? ⟨p,0,none⟩=false∧w.frozen? ⟨p,1,none⟩=false:=by
 obtain⟨s,v,h1⟩:=h
 exact⟨s,v,by simp[World.cell?,h1],by simp[World.cell?,h1],by simp[World.frozen?,h1],by simp[World.frozen?,h1]⟩
theorem given {w:World}{p:Nat}{v:Value}{n z:Int}{s:Bool}(hp:IntAt w p)(hd:Dg w v n)(hs:s=decide (z<0))(hn:n=z.natAbs):Tn p w ((w.setCell ⟨p,1,none⟩ v).setCell ⟨p,0,none⟩ (.bool s))∧Big ((w.setCell ⟨p,1,none⟩ v).setCell ⟨p,0,none⟩ (.bool s)) p z:=by
 have k:Tn p w ((w.setCell ⟨p,1,none⟩ v).setCell ⟨p,0,none⟩ (.bool s)) :=
  ⟨rfl,rfl,rfl,by simp[World.setCell],fun k hk hn=>by rw[Below.heap_setCell _ _ _ _ hn,Below.heap_setCell _ _ _ _ hn]⟩
 refine⟨k,v,?_,hn ▸ hd.tn k hp⟩
 obtain⟨s0,v0,h1⟩:=hp
 subst hs
 simp[World.setCell,Array.getElem?_modify,h1]
def sg (b:Bool)(n:Int):Int:=if b then -n else n
theorem qa8 (p:Nat)(b:Bool)(v:Value)(n:Int)(w:World)(hp:IntAt w p)(hd:Dg w v n)(hn:n<4294967296 ^ 8) :
  Calls Tryz.prog 103 #[.pointer (some ⟨p,0,none⟩),.bool b,v] w fun e w'=>e=.returned (.pointer (some ⟨p,0,none⟩))∧Tn p w w'∧Big w' p (sg b n):=by
 obtain⟨ao,cap,L,rfl,hI,hl8,hr,hc1,_,_⟩:=hd.at hn
 obtain⟨s0,v0,c0,c1,f0,f1⟩:=hp.cells
 have n0:=hI.lo
 have nz:=hI.zero
 cases b
 ·have GV:=zX (given (s:=false) (z:=n) hp hd (by simp;omega) (by omega))
  have hlt:=hp.lt
  clear hr hI nz hp hd
  go_enter Tryz.func103,Tryz.ntmps103
  go_wp2_with fail
  go_ret
  exact⟨rfl,(uX GV).1,(uX GV).2⟩
 ·have hb:decide (0<L.length)=decide (-n<0):=by
   by_cases h:L.length=0
   ·have:=nz.1 h;simp[h];omega
   ·have:n≠0:=fun e=>h (nz.2 e)
    have a1:decide (0<L.length)=true:=by simp;omega
    have a2:decide (-n<0)=true:=by simp;omega
    rw[a1,a2]
  have GV:=zX (given (s:=decide (0<L.length)) (z:=-n) hp hd hb (by omega))
  have hlt:=hp.lt
  clear hr hI nz hp hd hb
  go_enter Tryz.func103,Tryz.ntmps103
  go_wp2_with fail
  go_ret
  exact⟨rfl,(uX GV).1,(uX GV).2⟩
theorem setU_any (p:Nat)(x:Int)(w:World)(hp:IntAt w p)(hx:U x) :
  Calls Tryz.prog 116 #[.pointer (some ⟨p,0,none⟩),.int .u64 x] w fun e w'=>e=.returned (.pointer (some ⟨p,0,none⟩))∧Tn p w w'∧Big w' p x:=by
 have HP:=zX hp
 clear hp
 go_enter Tryz.func116,Tryz.ntmps116
 go_wp2_with fail
 refine (words_any x _ hx).mono ?_
 rintro e w1 ⟨k1,v1,rfl,D1⟩
 have K1:=zX k1
 have HD:=zX D1
 clear k1 D1
 go_wp2_with fail
 refine (qa8 p false v1 x _ ((uX HP).step (uX K1)) (uX HD) (by unfold U at hx;omega)).mono ?_
 rintro e w2 ⟨rfl,k2,b2⟩
 have K2:=zX k2
 have B2:=zX b2
 clear k2 b2
 go_wp2_with fail
 go_ret
 exact⟨rfl,(Tn.of (uX K1)).trans (uX K2),uX B2⟩
theorem qbr (x:Int)(w:World)(hx:U x) :
  Calls Tryz.prog 71 #[.int .u64 x] w fun e w'=>e=.returned (.pointer (some ⟨w.heap.size,0,none⟩))∧Below w.heap.size w w'∧Big w' w.heap.size x:=by
 have HB:=zX (Big.new w)
 have KA:=zX (qaa w (.cells #[.bool false,.slice none 0 0] 127))
 go_enter Tryz.func71,Tryz.ntmps71
 go_wp2_with fail
 refine (setU_any w.heap.size x _ (uX HB).int hx).mono ?_
 rintro e w1 ⟨rfl,k1,b1⟩
 have K1:=zX k1
 have B1:=zX b1
 clear k1 b1
 go_wp2_with fail
 go_ret
 exact⟨rfl,(uX KA).trans ((uX K1).below (Nat.le_refl _) (by simp)),uX B1⟩
def I64 (x:Int):Prop:=-9223372036854775808≤x∧x≤9223372036854775807
theorem setI_any (p:Nat)(x:Int)(w:World)(hp:IntAt w p)(hx:I64 x) :
  Calls Tryz.prog 113 #[.pointer (some ⟨p,0,none⟩),.int .i64 x] w fun e w'=>e=.returned (.pointer (some ⟨p,0,none⟩))∧Tn p w w'∧Big w' p x:=by
 have HP:=zX hp
 obtain⟨h0,h1⟩:=hx
 clear hp
 by_cases hneg:x<0
 ·have e1:IntKind.u64.wrap (-IntKind.u64.wrap x)=-x:=by rw[qbl,qbl];omega
  have e2:(-(x+18446744073709551616)) % 18446744073709551616=-x:=by omega
  have hb:decide (x<0)=true:=by simp[hneg]
  go_enter Tryz.func113,Tryz.ntmps113
  go_wp2_with fail
  refine (words_any (-x) _ ⟨by omega,by omega⟩).mono ?_
  rintro e w1 ⟨k1,v1,rfl,D1⟩
  have K1:=zX k1
  have HD:=zX D1
  clear k1 D1
  go_wp2_with fail
  refine (qa8 p true v1 (-x) _ ((uX HP).step (uX K1)) (uX HD) (by omega)).mono ?_
  rintro e w2 ⟨rfl,k2,b2⟩
  have hs:sg true (-x)=x:=by simp[sg]
  rw[hs] at b2
  have K2:=zX k2
  have B2:=zX b2
  clear k2 b2
  go_wp2_with fail
  go_ret
  exact⟨rfl,(Tn.of (uX K1)).trans (uX K2),uX B2⟩
 ·have e1:IntKind.u64.wrap x=x:=by rw[qbl];omega
  have hb:decide (x<0)=false:=by simp;omega
  go_enter Tryz.func113,Tryz.ntmps113
  go_wp2_with fail
  refine (words_any x _ ⟨by omega,by omega⟩).mono ?_
  rintro e w1 ⟨k1,v1,rfl,D1⟩
  have K1:=zX k1
  have HD:=zX D1
  clear k1 D1
  go_wp2_with fail
  refine (qa8 p false v1 x _ ((uX HP).step (uX K1)) (uX HD) (by omega)).mono ?_
  rintro e w2 ⟨rfl,k2,b2⟩
  have K2:=zX k2
  have B2:=zX b2
  clear k2 b2
  go_wp2_with fail
  go_ret
  exact⟨rfl,(Tn.of (uX K1)).trans (uX K2),uX B2⟩
theorem newI_any (x:Int)(w:World)(hx:I64 x) :
  Calls Tryz.prog 106 #[.int .i64 x] w fun e w'=>e=.returned (.pointer (some ⟨w.heap.size,0,none⟩))∧Below w.heap.size w w'∧Big w' w.heap.size x:=by
 have HB:=zX (Big.new w)
 have KA:=zX (qaa w (.cells #[.bool false,.slice none 0 0] 127))
 go_enter Tryz.func106,Tryz.ntmps106
 go_wp2_with fail
 refine (setI_any w.heap.size x _ (uX HB).int hx).mono ?_
 rintro e w1 ⟨rfl,k1,b1⟩
 have K1:=zX k1
 have B1:=zX b1
 clear k1 b1
 go_wp2_with fail
 go_ret
 exact⟨rfl,(uX KA).trans ((uX K1).below (Nat.le_refl _) (by simp)),uX B1⟩
theorem uint_any (p:Nat)(z:Int)(w:World)(h:Big w p z)(hz:z.natAbs<18446744073709551616) :
  Calls Tryz.prog 74 #[.pointer (some ⟨p,0,none⟩)] w fun e w'=>w'=w∧e=.returned (.int .u64 z.natAbs):=by
 obtain⟨v,cs,c1,hD,hlt⟩:=h.cells
 have hn:((z.natAbs:Nat):Int)<18446744073709551616:=by omega
 generalize ((z.natAbs:Nat):Int)=n at *
 obtain⟨ao,cap,L,rfl,hI,hl8,hr,hc1,hd,hc⟩:=hD.at (by omega)
 obtain⟨q1,q2,q3,q4⟩:=is_two hI hn
 have g0:=hI.1.get 0
 have g1:=hI.1.get 1
 have HC:=zX hc
 have HQ:=zX q1
 clear hr hI hc q1 h hD hz cs
 by_cases l0:L.length=0
 ·have:=q2 l0
  subst this
  rw[l0] at c1
  go_enter Tryz.func74,Tryz.ntmps74
  go_wp2_with fail
  go_ret
  exact⟨rfl,rfl⟩
 ·obtain⟨d,rfl,hdl⟩:=hd l0
  have k0:=uX HC d rfl 0 (by omega)
  by_cases l1:L.length=1
  ·have:=q3 l1
   rw[l1] at c1
   clear q3 q2 g1 hd
   generalize L.getD 0 0=x at *
   subst this
   go_enter Tryz.func74,Tryz.ntmps74
   go_wp2_with fail
   go_ret
   exact⟨rfl,rfl⟩
  ·have l2:L.length=2:=by omega
   have k1:=uX HC d rfl 1 (by omega)
   have ho:=or_two _ _ g0 g1
   rw[← uX HQ] at ho
   rw[l2] at c1
   generalize L.getD 0 0=x at *
   generalize L.getD 1 0=y at *
   go_enter Tryz.func74,Tryz.ntmps74
   go_wp2_with fail
   go_ret
   exact⟨rfl,rfl⟩
theorem sign_any (p:Nat)(z:Int)(w:World)(h:Big w p z)(hz:z.natAbs<4294967296 ^ 8) :
  Calls Tryz.prog 65 #[.pointer (some ⟨p,0,none⟩)] w fun e w'=>w'=w∧e=.returned (.int .i64 z.sign):=by
 obtain⟨v,cs,c1,hD,hlt⟩:=h.cells
 obtain⟨ao,cap,L,rfl,hI,hl8,hr,hc1,hd,hc⟩:=hD.at (by omega)
 have nz:=hI.zero
 clear hd hc
 by_cases z0:z=0
 ·subst z0
  have hl0:L.length=0:=nz.2 (by simp)
  rw[hl0] at c1
  clear hr hI h hD nz hz
  go_enter Tryz.func65,Tryz.ntmps65
  go_wp2_with fail
  go_ret
  exact⟨rfl,rfl⟩
 ·have hl0:L.length≠0:=fun e=>z0 (by have:=nz.1 e;omega)
  have hlb:((L.length:Int)==0)=false:=by rw[beq_eq_false_iff_ne];omega
  have hlc:(L.length==0)=false:=by rw[beq_eq_false_iff_ne];exact hl0
  by_cases hneg:z<0
  ·have hb:decide (z<0)=true:=by simp[hneg]
   rw[hb] at cs
   have e1:z.sign=-1:=Int.sign_eq_neg_one_of_neg hneg
   rw[e1]
   clear hr hI h hD nz hz z0 hneg hb
   go_enter Tryz.func65,Tryz.ntmps65
   go_wp2_with fail
   go_ret
   exact⟨rfl,rfl⟩
  ·have hb:decide (z<0)=false:=by simp;omega
   rw[hb] at cs
   have e1:z.sign=1:=Int.sign_eq_one_of_pos (by omega)
   rw[e1]
   clear hr hI h hD nz hz z0 hneg hb
   go_enter Tryz.func65,Tryz.ntmps65
   go_wp2_with fail
   go_ret
   exact⟨rfl,rfl⟩
end Go.Proofs.YtjpnnmkefaodoaaGreat
