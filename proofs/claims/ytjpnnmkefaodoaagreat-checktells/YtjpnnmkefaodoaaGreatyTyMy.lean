/-
  TyM, R7F, TrW, TyG, TyL.
-/
import Derived.Laws.Bits64
import Derived.Laws.Bits64b
import Derived.Test.YtjpnnmkefaodoaaGreatySoBy
set_option maxHeartbeats 8000000
set_option maxRecDepth 100000
namespace Go.Proofs.YtjpnnmkefaodoaaGreat
open Go.RowKit
set_option linter.unusedSimpArgs false
set_option linter.unusedVariables false
theorem md_le_dvd {x W:Int}(hx:IsW x)(hW:IsW W)(h:x≤W):md x ∣ md W:=by
 rcases hx with rfl|rfl|rfl|rfl <;> rcases hW with rfl|rfl|rfl|rfl <;> first|(exfalso;omega)|decide
theorem cut_le {x W:Int}(hx:IsW x)(hW:IsW W)(h:x≤W)(z:Int):cut x (cut W z)=cut x z:=Int.emod_emod_of_dvd _ (md_le_dvd hx hW h)
def gr (b:Int)(s:Bool):Int:=if s=true then 2 ^ (b - 1).toNat - 1 else 2 ^ b.toNat - 1
theorem greatest_any (b:Int)(s:Bool)(w:World)(h:b=16∨b=32∨b=64):Calls Tryz.prog 183 #[.agg #[.int .i64 b,.bool s]] w fun e w'=>e=.returned (.int .u64 (gr b s))∧Below w.heap.size w w':=by
 rcases h with rfl|rfl|rfl <;> cases s
 all_goals
  go_enter Tryz.func183,Tryz.ntmps183
  go_wp2
  go_ret
  exact⟨by kernel_rfl,qaa _ _⟩
def lit (n:Int)(u:Bool):Int × Bool × Int:=if n≤gr 16 (!u) then (16,!u,0) else if n≤gr 32 (!u) then (32,!u,0) else if n≤gr 64 (!u) then (64,!u,0) else (0,false,3)
theorem literal_any (n:Int)(u:Bool)(w:World):Calls Tryz.prog 168 #[.int .u64 n,.bool u] w fun e w'=>e=.returned (.tuple #[.agg #[.int .i64 (lit n u).1,.bool (lit n u).2.1],.int .i64 (lit n u).2.2])∧Below w.heap.size w w':=by
 have HG16:=zX (fun (w:World)=>greatest_any 16 (!u) w (.inl rfl))
 have HG32:=zX (fun (w:World)=>greatest_any 32 (!u) w (.inr (.inl rfl)))
 have HG64:=zX (fun (w:World)=>greatest_any 64 (!u) w (.inr (.inr rfl)))
 have HL:Hid (lit n u=if n≤gr 16 (!u) then (16,!u,0) else if n≤gr 32 (!u) then (32,!u,0) else if n≤gr 64 (!u) then (64,!u,0) else (0,false,3)):=rfl
 generalize lit n u=LI at *
 generalize gr 16 (!u)=g16 at *
 generalize gr 32 (!u)=g32 at *
 generalize gr 64 (!u)=g64 at *
 obtain⟨LB,LS,LE⟩:=LI
 simp only
 go_enter Tryz.func168,Tryz.ntmps168
 go_wp2_with fail
 have I0:=zX (And.intro (qaa w (.cells #[.int .i64 0,.bool false] 34)) (Box.new w #[.int .i64 0,.bool false] 34))
 generalize w.alloc (.cells #[.int .i64 0,.bool false] 34)=wa at *
 go_loopg [6] 3 (fun g t wr=>∃ i:Nat,i≤3∧g=3 - i∧t=.int .i64 ([16,32,64,128].getD i 0)∧Hid (Below w.heap.size w wr∧Box wr w.heap.size [.int .i64 0,.bool false])∧Hid ((1≤i→¬ n≤g16)∧(2≤i→¬ n≤g32)∧(3≤i→¬ n≤g64)))
 case atStart=>exact⟨0,by decide,rfl,rfl,I0,⟨(fun h=>by omega),(fun h=>by omega),(fun h=>by omega)⟩⟩
 case round =>
  obtain⟨i,hi,hg,rfl,I,N⟩:=hrel
  clear I0
  have hi5:i=0∨i=1∨i=2∨i=3:=by omega
  have lr:=(uX I).2.1
  rcases hi5 with rfl|rfl|rfl|rfl
  ·dsimp only[List.getD,List.getElem?_cons_zero,List.getElem?_cons_succ,Option.getD]
   go_wp2_with fail
   refine (uX HG16 _).mono ?_
   rintro e wt ⟨rfl,kt⟩
   have L:=zX (And.intro (bT (uX I).1 (bT (qaa wr (.cells #[.int .i64 16,.bool (!u)] 34)) kt)) ((uX I).2.step (bT (qaa wr (.cells #[.int .i64 16,.bool (!u)] 34)) kt)))
   have BT:=zX ((Box.new wr #[.int .i64 16,.bool (!u)] 34).step kt)
   generalize wr.heap.size=pt at *
   clear kt
   obtain⟨t0,t1⟩:=(uX BT).at2
   obtain⟨r0,r1⟩:=(uX L).2.at2
   have rf:=(uX L).2.2.2
   by_cases hz:n≤g16
   ·have dz:decide (n≤g16)=true:=by simpa using hz
    unfold Hid at HL
    rw[if_pos hz] at HL
    simp only[Prod.mk.injEq] at HL
    obtain⟨rfl,rfl,rfl⟩:=HL
    have p0:=(uX L).2.put0
    have p1:=(uX L).2.put1
    go_wp2_with fail
    exact bodyPost_ret (v:=.tuple #[.agg #[.int .i64 16,.bool (!u)],.int .i64 0]) (by simp[results,Tryz.results168,go_sem,p0,p1]) rfl ⟨rfl,zY (uX L).1 (Nat.le_refl _) _ _⟩
   ·have dz:decide (n≤g16)=false:=by simpa using hz
    have hz':=zX hz
    clear hz
    go_wp2_with fail
    go_roundg 2
    case measure=>omega
    case rel=>exact⟨1,by decide,rfl,rfl,L,⟨(fun _=>uX hz'),(fun h=>by omega),(fun h=>by omega)⟩⟩
  ·dsimp only[List.getD,List.getElem?_cons_zero,List.getElem?_cons_succ,Option.getD]
   go_wp2_with fail
   refine (uX HG32 _).mono ?_
   rintro e wt ⟨rfl,kt⟩
   have L:=zX (And.intro (bT (uX I).1 (bT (qaa wr (.cells #[.int .i64 32,.bool (!u)] 34)) kt)) ((uX I).2.step (bT (qaa wr (.cells #[.int .i64 32,.bool (!u)] 34)) kt)))
   have BT:=zX ((Box.new wr #[.int .i64 32,.bool (!u)] 34).step kt)
   generalize wr.heap.size=pt at *
   clear kt
   obtain⟨t0,t1⟩:=(uX BT).at2
   obtain⟨r0,r1⟩:=(uX L).2.at2
   have rf:=(uX L).2.2.2
   by_cases hz:n≤g32
   ·have dz:decide (n≤g32)=true:=by simpa using hz
    unfold Hid at HL
    rw[if_neg (by have:=(uX N).1 (by decide);omega)] at HL
    rw[if_pos hz] at HL
    simp only[Prod.mk.injEq] at HL
    obtain⟨rfl,rfl,rfl⟩:=HL
    have p0:=(uX L).2.put0
    have p1:=(uX L).2.put1
    go_wp2_with fail
    exact bodyPost_ret (v:=.tuple #[.agg #[.int .i64 32,.bool (!u)],.int .i64 0]) (by simp[results,Tryz.results168,go_sem,p0,p1]) rfl ⟨rfl,zY (uX L).1 (Nat.le_refl _) _ _⟩
   ·have dz:decide (n≤g32)=false:=by simpa using hz
    have hz':=zX hz
    clear hz
    go_wp2_with fail
    go_roundg 1
    case measure=>omega
    case rel=>exact⟨2,by decide,rfl,rfl,L,⟨(fun _=>(uX N).1 (by decide)),(fun _=>uX hz'),(fun h=>by omega)⟩⟩
  ·dsimp only[List.getD,List.getElem?_cons_zero,List.getElem?_cons_succ,Option.getD]
   go_wp2_with fail
   refine (uX HG64 _).mono ?_
   rintro e wt ⟨rfl,kt⟩
   have L:=zX (And.intro (bT (uX I).1 (bT (qaa wr (.cells #[.int .i64 64,.bool (!u)] 34)) kt)) ((uX I).2.step (bT (qaa wr (.cells #[.int .i64 64,.bool (!u)] 34)) kt)))
   have BT:=zX ((Box.new wr #[.int .i64 64,.bool (!u)] 34).step kt)
   generalize wr.heap.size=pt at *
   clear kt
   obtain⟨t0,t1⟩:=(uX BT).at2
   obtain⟨r0,r1⟩:=(uX L).2.at2
   have rf:=(uX L).2.2.2
   by_cases hz:n≤g64
   ·have dz:decide (n≤g64)=true:=by simpa using hz
    unfold Hid at HL
    rw[if_neg (by have:=(uX N).1 (by decide);omega)] at HL
    rw[if_neg (by have:=(uX N).2.1 (by decide);omega)] at HL
    rw[if_pos hz] at HL
    simp only[Prod.mk.injEq] at HL
    obtain⟨rfl,rfl,rfl⟩:=HL
    have p0:=(uX L).2.put0
    have p1:=(uX L).2.put1
    go_wp2_with fail
    exact bodyPost_ret (v:=.tuple #[.agg #[.int .i64 64,.bool (!u)],.int .i64 0]) (by simp[results,Tryz.results168,go_sem,p0,p1]) rfl ⟨rfl,zY (uX L).1 (Nat.le_refl _) _ _⟩
   ·have dz:decide (n≤g64)=false:=by simpa using hz
    have hz':=zX hz
    clear hz
    go_wp2_with fail
    go_roundg 0
    case measure=>omega
    case rel=>exact⟨3,by decide,rfl,rfl,L,⟨(fun _=>(uX N).1 (by decide)),(fun _=>(uX N).2.1 (by decide)),(fun _=>uX hz')⟩⟩
  ·dsimp only[List.getD,List.getElem?_cons_zero,List.getElem?_cons_succ,Option.getD]
   unfold Hid at HL
   rw[if_neg (by have:=(uX N).1 (by decide);omega),if_neg (by have:=(uX N).2.1 (by decide);omega),if_neg (by have:=(uX N).2.2 (by decide);omega)] at HL
   simp only[Prod.mk.injEq] at HL
   obtain⟨rfl,rfl,rfl⟩:=HL
   obtain⟨r0,r1⟩:=(uX I).2.at2
   have rf:=(uX I).2.2.2
   have p0:=(uX I).2.put0
   have p1:=(uX I).2.put1
   go_wp2_with fail
   exact bodyPost_ret (v:=.tuple #[.agg #[.int .i64 0,.bool false],.int .i64 3]) (by simp[results,Tryz.results168,go_sem,p0,p1]) rfl ⟨rfl,zY (uX I).1 (Nat.le_refl _) _ _⟩
def nodeW (d c:Nat):Int:=if 20000<c+1∨100<d then 4 else 0
def isWB (b:Int):Bool:=decide (b=8∨b=16∨b=32∨b=64)
def wName (nm:ByteArray):Int:=if namN nm=true then 0 else 7
def wTyped (b:Int)(nm:ByteArray):Int:=if isWB b=true then wName nm else 9
def wExF (k n b:Int)(s:Bool)(nm:ByteArray):Int :=
 if k=1 then (if (lit n (!s)).2.2=0∧(lit n (!s)).1=b∧(lit n (!s)).2.1=s then 0 else 9)
 else if k=2∨k=3∨k=4 then wName nm
 else if k=5 then (if isWB b=true then 0 else 9)
 else 0
def kidLo (k:Int):Nat:=if k=1∨k=2∨k=4 then 0 else if k=3∨k=5∨k=6∨k=7∨k=8 then 1 else 2
def kidHi (k:Int):Nat:=if k=1∨k=2 then 0 else if k=4 then 8 else if k=3∨k=5∨k=6∨k=7∨k=8 then 1 else 2
mutual
def lkE:Ex→Nat→Nat→Int × Nat
 | .mk k n b s nm kids,d,c =>
  if nodeW d c≠0 then (nodeW d c,c+1)
  else if k<1∨26<k then (1,c+1)
  else if wExF k n b s nm≠0 then (wExF k n b s nm,c+1)
  else if kids.length<kidLo k∨kidHi k<kids.length then (5,c+1)
  else lkEs kids (d+1) (c+1)
def lkEs:List Ex→Nat→Nat→Int × Nat
 | [],_,c=>(0,c)
 | x::xs,d,c=>if (lkE x d c).1≠0 then lkE x d c else lkEs xs d (lkE x d c).2
end
def wSmF (k b:Int)(nm:ByteArray):Int:=if k=2 then wTyped b nm else if k=3 then wName nm else 0
def hasX (k:Int)(has:Bool):Bool:=if k=3∨k=4∨k=5∨k=6 then true else if k=2∨k=8∨k=7 then has else false
def thn (r:Int × Nat)(f:Nat→Int × Nat):Int × Nat:=if r.1≠0 then r else f r.2
def isSE (l:List Sm):Bool:=l.all fun s=>decide (s.k=3∨s.k=4)
mutual
def lkS:Sm→Nat→Nat→Int × Nat
 | .mk k b s nm has x i init step body els,d,c =>
  if nodeW d c≠0 then (nodeW d c,c+1)
  else if k<1∨11<k then (1,c+1)
  else if wSmF k b nm≠0 then (wSmF k b nm,c+1)
  else
   thn (if k=7 then (if 1<init.length then (5,c+1) else if isSE init=true then lkSs init (d+1) (c+1) else (8,c+1)) else (0,c+1)) fun c =>
   thn (if k=3∧has=true then lkE i (d+1) c else (0,c)) fun c =>
   thn (if hasX k has=true then lkE x (d+1) c else (0,c)) fun c =>
   thn (if k=7 then (if 1<step.length then (5,c) else if isSE step=true then lkSs step (d+1) c else (8,c)) else (0,c)) fun c =>
   if k=5 then thn (lkSs body (d+1) c) fun c=>lkSs els (d+1) c
   else if k=6∨k=7∨k=11 then lkSs body (d+1) c else (0,c)
def lkSs:List Sm→Nat→Nat→Int × Nat
 | [],_,c=>(0,c)
 | x::xs,d,c=>if (lkS x d c).1≠0 then lkS x d c else lkSs xs d (lkS x d c).2
end
structure Gb where
 b:Int
 s:Bool
 nm:ByteArray
 size:Int
 init:List Ex
structure Pm where
 b:Int
 s:Bool
 nm:ByteArray
structure Fn8 where
 nm:ByteArray
 b:Int
 s:Bool
 params:List Pm
 body:List Sm
structure Pg where
 globals:List Gb
 funcs:List Fn8
def lkG (g:Gb)(c:Nat):Int × Nat :=
 if wTyped g.b g.nm≠0 then (wTyped g.b g.nm,c)
 else if g.size<0∨8000<g.size then (3,c)
 else if (max 1 g.size)<(g.init.length:Int) then (5,c)
 else if nodeW 1 c≠0 then (nodeW 1 c,c+1)
 else lkEs g.init 2 (c+1)
def lkPs:List Pm→Int
 | []=>0
 | p::ps=>if wTyped p.b p.nm≠0 then wTyped p.b p.nm else lkPs ps
def lkF (f:Fn8)(c:Nat):Int × Nat :=
 if namN f.nm=false then (7,c)
 else if isWB f.b=false∧¬ (f.b=0∧f.s=false) then (9,c)
 else if 8<f.params.length then (5,c)
 else if lkPs f.params≠0 then (lkPs f.params,c)
 else if nodeW 1 c≠0 then (nodeW 1 c,c+1)
 else lkSs f.body 2 (c+1)
def lkGs:List Gb→Nat→Int × Nat
 | [],c=>(0,c)
 | g::gs,c=>thn (lkG g c) (lkGs gs)
def lkFs:List Fn8→Nat→Int × Nat
 | [],c=>(0,c)
 | f::fs,c=>thn (lkF f c) (lkFs fs)
def lkP (p:Pg):Int × Nat:=if 100<p.funcs.length then (5,0) else thn (lkGs p.globals 0) (lkFs p.funcs)
theorem Duo.more {w w3:World}{T:TypeId}{a0 a1 b0 b1 u v:Value}(h:Duo w w3 a0 a1 b0 b1):Duo w (w3.alloc (.cells #[u,v] T)) a0 a1 b0 b1∧Box (w3.alloc (.cells #[u,v] T)) w3.heap.size [u,v]:=⟨h.step (qaa _ _),Box.new w3 #[u,v] T⟩
theorem qap (k a b x y:Int)(s t:Bool)(w:World)(hk:wkB k)(hx:IsW x)(hy:IsW y)(ha:U a)(hb:U b):Calls Tryz.prog 88 #[.int .i64 k,.int .u64 a,.int .u64 b,.agg #[.int .i64 x,.bool s],.agg #[.int .i64 y,.bool t]] w fun e w'=>e=.returned (.tuple #[.int .u64 (wrk k (cs x s y t) (cb x y) (conv a x s (cb x y)) (conv b y t (cb x y))).1,.int .i64 (wrk k (cs x s y t) (cb x y) (conv a x s (cb x y)) (conv b y t (cb x y))).2])∧Below w.heap.size w w':=by
 have hX:=isW_c hx hy
 have hs:shB k=false:=by rcases hk with rfl|rfl|rfl|rfl|rfl|rfl|rfl|rfl <;> decide
 have hc:cpB k=false:=by rcases hk with rfl|rfl|rfl|rfl|rfl|rfl|rfl|rfl <;> decide
 have h9:9≤k∧k≤24:=by unfold wkB at hk;omega
 have B1:=zX (fun (w:World)=>qaz x s w hx)
 have B2:=zX (fun (w:World)=>qaz y t w hy)
 have d1:decide (k<9)=false:=by simp;omega
 have d2:decide (24<k)=false:=by simp;omega
 have SH:=zX (fun (w:World)=>shifts_any k w)
 rw[hs] at SH
 have CP:=zX (fun (w:World)=>compares_any k w)
 rw[hc] at CP
 have HK:=zX hk
 clear hk hs hc h9
 go_enter Tryz.func88,Tryz.ntmps88
 go_wp2_with (first|(go_at_call 83;have K:=R1;refine (uX B2 _).mono ?_;rintro e w2 ⟨rfl,k2⟩;clear K x0 x1 x2 x3;have R2:=zX ((uX R1).step k2);obtain⟨x0,x1⟩:=(uX R2).A.at2;obtain⟨x2,x3⟩:=(uX R2).B.at2)|(go_at_call 83;refine (uX B1 _).mono ?_;rintro e w1 ⟨rfl,k1⟩;have R1:=zX (Duo.new k1);obtain⟨x0,x1⟩:=(uX R1).A.at2;obtain⟨x2,x3⟩:=(uX R1).B.at2)|(go_at_call 127;refine (uX SH _).mono ?_;rintro e w' ⟨rfl,hw⟩;subst w'))
 refine (common_any x s y t w2).mono ?_
 rintro e w3 ⟨rfl,k3⟩
 clear x0 x1 x2 x3
 have R3:=zX ((uX R2).step k3)
 go_wp2_with fail
 have R4:=zX ((uX R3).more (T:=34) (u:=.int .i64 (cb x y)) (v:=.bool (cs x s y t)))
 generalize w3.alloc (.cells #[.int .i64 (cb x y),.bool (cs x s y t)] 34)=w4 at *
 obtain⟨x0,x1⟩:=(uX R4).1.A.at2
 obtain⟨x2,x3⟩:=(uX R4).1.B.at2
 obtain⟨x4,x5⟩:=(uX R4).2.at2
 have l0:=(uX R4).1.A.1
 have l1:=(uX R4).1.B.1
 have l2:=(uX R4).2.1
 refine zL (by kernel_rfl) (by kernel_rfl) ?_
 intro L hne lt hlc hlf hlm
 repeat (go_big_quiet_step ((go_at_call 85;exact zM hlm (qa5 _ _ _ _ _ _ (by assumption) (by assumption) (by assumption)))))
 refine wpQuiet_nil ?_
 intro wq kq
 clear hlm hlf hlc lt hne L
 obtain⟨hqc,hqf⟩:=qad kq
 have U1:U (conv a x s (cb x y)):=qas hX
 have U2:U (conv b y t (cb x y)):=qas hX
 clear x0 x1 x2 x3 x4 x5 l0 l1 l2 hqc hqf
 have R5:=zX ((uX R4).2.step kq)
 have K5:=zX (bT (uX R4).1.bel kq)
 obtain⟨x4,x5⟩:=(uX R5).at2
 have WK:=zX (fun (w:World)=>worked_any k _ _ _ (cs x s y t) w (uX HK) hX U1 U2)
 go_wp2_with (first|(go_at_call 130;refine (uX CP _).mono ?_;rintro e w' ⟨rfl,hw⟩;subst w')|(go_at_call 132;refine (uX WK _).mono ?_;rintro e w6 ⟨rfl,k6⟩))
 go_ret2
 exact⟨rfl,bT (uX K5) k6⟩
theorem qa1 (k a b x y:Int)(s t:Bool)(w:World)(hk:16≤k∧k≤21)(hx:IsW x)(hy:IsW y)(ha:U a)(hb:U b):Calls Tryz.prog 88 #[.int .i64 k,.int .u64 a,.int .u64 b,.agg #[.int .i64 x,.bool s],.agg #[.int .i64 y,.bool t]] w fun e w'=>e=.returned (.tuple #[.int .u64 (b1 (hld k (cs x s y t) (cb x y) (conv a x s (cb x y)) (conv b y t (cb x y)))),.int .i64 0])∧Below w.heap.size w w':=by
 have hX:=isW_c hx hy
 have hs:shB k=false:=by unfold shB;rw[zBq (by omega),zBq (by omega)];rfl
 have hc:cpB k=true:=by unfold cpB;simp;exact hk
 have B1:=zX (fun (w:World)=>qaz x s w hx)
 have B2:=zX (fun (w:World)=>qaz y t w hy)
 have d1:decide (k<9)=false:=by simp;omega
 have d2:decide (24<k)=false:=by simp;omega
 have SH:=zX (fun (w:World)=>shifts_any k w)
 rw[hs] at SH
 have CP:=zX (fun (w:World)=>compares_any k w)
 rw[hc] at CP
 have HK:=zX hk
 clear hk hs hc
 go_enter Tryz.func88,Tryz.ntmps88
 go_wp2_with (first|(go_at_call 83;have K:=R1;refine (uX B2 _).mono ?_;rintro e w2 ⟨rfl,k2⟩;clear K x0 x1 x2 x3;have R2:=zX ((uX R1).step k2);obtain⟨x0,x1⟩:=(uX R2).A.at2;obtain⟨x2,x3⟩:=(uX R2).B.at2)|(go_at_call 83;refine (uX B1 _).mono ?_;rintro e w1 ⟨rfl,k1⟩;have R1:=zX (Duo.new k1);obtain⟨x0,x1⟩:=(uX R1).A.at2;obtain⟨x2,x3⟩:=(uX R1).B.at2)|(go_at_call 127;refine (uX SH _).mono ?_;rintro e w' ⟨rfl,hw⟩;subst w'))
 refine (common_any x s y t w2).mono ?_
 rintro e w3 ⟨rfl,k3⟩
 clear x0 x1 x2 x3
 have R3:=zX ((uX R2).step k3)
 go_wp2_with fail
 have R4:=zX ((uX R3).more (T:=34) (u:=.int .i64 (cb x y)) (v:=.bool (cs x s y t)))
 generalize w3.alloc (.cells #[.int .i64 (cb x y),.bool (cs x s y t)] 34)=w4 at *
 obtain⟨x0,x1⟩:=(uX R4).1.A.at2
 obtain⟨x2,x3⟩:=(uX R4).1.B.at2
 obtain⟨x4,x5⟩:=(uX R4).2.at2
 have l0:=(uX R4).1.A.1
 have l1:=(uX R4).1.B.1
 have l2:=(uX R4).2.1
 refine zL (by kernel_rfl) (by kernel_rfl) ?_
 intro L hne lt hlc hlf hlm
 repeat (go_big_quiet_step ((go_at_call 85;exact zM hlm (qa5 _ _ _ _ _ _ (by assumption) (by assumption) (by assumption)))))
 refine wpQuiet_nil ?_
 intro wq kq
 clear hlm hlf hlc lt hne L
 obtain⟨hqc,hqf⟩:=qad kq
 have U1:U (conv a x s (cb x y)):=qas hX
 have U2:U (conv b y t (cb x y)):=qas hX
 clear x0 x1 x2 x3 x4 x5 l0 l1 l2 hqc hqf
 have R5:=zX ((uX R4).2.step kq)
 have K5:=zX (bT (uX R4).1.bel kq)
 obtain⟨x4,x5⟩:=(uX R5).at2
 have WK:=zX (fun (w:World)=>holds_any k _ _ _ (cs x s y t) w (uX HK) hX U1 U2)
 go_wp2_with (first|(go_at_call 130;refine (uX CP _).mono ?_;rintro e w' ⟨rfl,hw⟩;subst w')|(go_at_call 131;refine (uX WK _).mono ?_;rintro e w6 ⟨rfl,k6⟩)|(go_at_call 125;refine (oneIf_any _ _).mono ?_;rintro e w' ⟨rfl,hw⟩;subst w'))
 go_ret2
 exact⟨rfl,bT (uX K5) k6⟩
theorem binary_shift (k a b x y:Int)(s t:Bool)(w:World)(hk:k=14∨k=15)(hx:IsW x)(hy:IsW y)(ha:U a)(hb:U b):Calls Tryz.prog 88 #[.int .i64 k,.int .u64 a,.int .u64 b,.agg #[.int .i64 x,.bool s],.agg #[.int .i64 y,.bool t]] w fun e w'=>e=.returned (.tuple #[.int .u64 (shf k (ps x s) (pb x) (conv a x s (pb x)) (conv b y t 16)),.int .i64 0])∧Below w.heap.size w w':=by
 have hX:=isW_p hx
 have h16:IsW 16:=.inr (.inl rfl)
 have hs:shB k=true:=by rcases hk with rfl|rfl <;> decide
 have B1:=zX (fun (w:World)=>qaz x s w hx)
 have B2:=zX (fun (w:World)=>qaz y t w hy)
 have d1:decide (k<9)=false:=by simp;omega
 have d2:decide (24<k)=false:=by simp;omega
 have SH:=zX (fun (w:World)=>shifts_any k w)
 rw[hs] at SH
 have HK:=zX hk
 have HU1:=zX (qas (x:=a) (a:=x) (s:=s) hX)
 have HU2:=zX (qas (x:=b) (a:=y) (s:=t) h16)
 clear hk hs
 go_enter Tryz.func88,Tryz.ntmps88
 go_wp2_with (first|(go_at_call 83;have K:=R1;refine (uX B2 _).mono ?_;rintro e w2 ⟨rfl,k2⟩;clear K x0 x1 x2 x3;have R2:=zX ((uX R1).step k2);obtain⟨x0,x1⟩:=(uX R2).A.at2;obtain⟨x2,x3⟩:=(uX R2).B.at2)|(go_at_call 83;refine (uX B1 _).mono ?_;rintro e w1 ⟨rfl,k1⟩;have R1:=zX (Duo.new k1);obtain⟨x0,x1⟩:=(uX R1).A.at2;obtain⟨x2,x3⟩:=(uX R1).B.at2)|(go_at_call 127;refine (uX SH _).mono ?_;rintro e w' ⟨rfl,hw⟩;subst w'))
 refine (qa6 x s w2).mono ?_
 rintro e w3 ⟨rfl,k3⟩
 clear x0 x1 x2 x3
 have R3:=zX ((uX R2).step k3)
 go_wp2_with fail
 have R4:=zX ((uX R3).more (T:=34) (u:=.int .i64 (pb x)) (v:=.bool (ps x s)))
 generalize w3.alloc (.cells #[.int .i64 (pb x),.bool (ps x s)] 34)=w4 at *
 obtain⟨x0,x1⟩:=(uX R4).1.A.at2
 obtain⟨x2,x3⟩:=(uX R4).1.B.at2
 obtain⟨x4,x5⟩:=(uX R4).2.at2
 have l0:=(uX R4).1.A.1
 have l1:=(uX R4).1.B.1
 have l2:=(uX R4).2.1
 refine zL (by kernel_rfl) (by kernel_rfl) ?_
 intro L hne lt hlc hlf hlm
 repeat (go_big_quiet_step (first|(go_at_call 85;exact zM hlm (qa5 _ _ _ _ _ _ (by assumption) (by assumption) (by assumption)))|(go_at_call 128;exact zM hlm (shifted_any _ _ _ _ _ _ (uX HK) hX (uX HU1) (uX HU2)))))
 refine wpQuiet_nil ?_
 intro wq kq
 clear hlm hlf hlc lt hne L
 obtain⟨hqc,hqf⟩:=qad kq
 have K5:=zX (bT (uX R4).1.bel kq)
 go_wp2_with fail
 go_ret2
 exact⟨rfl,uX K5⟩
theorem Tri.new' {w w1:World}{T:TypeId}{a0 a1 b0 b1 c0 c1:Value}(k:Below (((w.alloc (.cells #[a0,a1] T)).alloc (.cells #[b0,b1] T)).alloc (.cells #[c0,c1] T)).heap.size (((w.alloc (.cells #[a0,a1] T)).alloc (.cells #[b0,b1] T)).alloc (.cells #[c0,c1] T)) w1):Tri w w1 a0 a1 b0 b1 c0 c1:=by
 have h1:=qaa w (.cells #[a0,a1] T)
 have h2:=qaa (w.alloc (.cells #[a0,a1] T)) (.cells #[b0,b1] T)
 have h3:=qaa ((w.alloc (.cells #[a0,a1] T)).alloc (.cells #[b0,b1] T)) (.cells #[c0,c1] T)
 have A:=Box.new w #[a0,a1] T
 have B:=Box.new (w.alloc (.cells #[a0,a1] T)) #[b0,b1] T
 have C:=Box.new ((w.alloc (.cells #[a0,a1] T)).alloc (.cells #[b0,b1] T)) #[c0,c1] T
 simp only[World.size_alloc] at B C
 exact⟨bT h1 (bT h2 (bT h3 k)),((A.step h2).step h3).step k,(B.step h3).step k,C.step k⟩
theorem Tri.more {w w3:World}{T:TypeId}{a0 a1 b0 b1 c0 c1 u v:Value}(h:Tri w w3 a0 a1 b0 b1 c0 c1):Tri w (w3.alloc (.cells #[u,v] T)) a0 a1 b0 b1 c0 c1∧Box (w3.alloc (.cells #[u,v] T)) w3.heap.size [u,v]:=⟨h.step (qaa _ _),Box.new w3 #[u,v] T⟩
end Go.Proofs.YtjpnnmkefaodoaaGreat
