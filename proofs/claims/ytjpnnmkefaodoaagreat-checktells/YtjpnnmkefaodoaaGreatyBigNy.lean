/-
  BigN, R7A, R7D, R7E.
-/
import Derived.Test.YtjpnnmkefaodoaaGreatyBigFy
import Derived.Test.YtjpnnmkefaodoaaGreatyBigM1y
set_option maxHeartbeats 8000000
set_option maxRecDepth 100000
namespace Go.Proofs.YtjpnnmkefaodoaaGreat
open Go.RowKit
set_option linter.unusedSimpArgs false
set_option linter.unusedVariables false
theorem divOk_w {n x:Int}(h:IsW n)(h0:0≤x)(h1:x<4294967296 ^ 6):DivOk x (md n):=by
 have b6:(4294967296:Int) ^ 6<4294967296 ^ 8:=by decide
 have b8:(18446744073709551616:Int)<4294967296 ^ 8:=by decide
 rcases h with rfl|rfl|rfl|rfl
 ·rw[md_8];exact qbg (by omega) (by omega) (by decide) (.inr (.inr (by decide)))
 ·rw[md_16];exact qbg (by omega) (by omega) (by decide) (.inr (.inr (by decide)))
 ·rw[md_32]
  by_cases hl:x<18446744073709551616
  ·exact qbg (by omega) (by omega) (by decide) (.inr (.inl hl))
  ·have e:(4294967296:Int)=4294967296 ^ 1:=by decide
   intro w v1 v2 d1 d2
   have:=div_long1 v1 v2 x w d1 (by rw[← e];exact d2) h1 (by omega)
   rw[← e] at this
   exact this
 ·rw[md_64]
  by_cases hl:x<18446744073709551616
  ·exact qbg (by omega) (by omega) (by decide) (.inr (.inl hl))
  ·have e:(18446744073709551616:Int)=4294967296 ^ 2:=by decide
   intro w v1 v2 d1 d2
   have:=div_long2 v1 v2 x w d1 (by rw[← e];exact d2) h1 (by omega)
   rw[← e] at this
   exact this
theorem w_nat {n:Int}(h:IsW n):∃ k:Nat,n=(k:Int)∧8≤k∧k≤64:=by
 rcases h with rfl|rfl|rfl|rfl
 ·exact⟨8,rfl,by decide,by decide⟩
 ·exact⟨16,rfl,by decide,by decide⟩
 ·exact⟨32,rfl,by decide,by decide⟩
 ·exact⟨64,rfl,by decide,by decide⟩
theorem fitW (a:Nat)(x n:Int)(w:World)(ha:Big w a x)(h:IsW n)(hx:x.natAbs<4294967296 ^ 6) :
  Calls Tryz.prog 60 #[.pointer (some ⟨a,0,none⟩),.int .i64 n] w fun e w'=>e=.returned (.int .u64 (cut n x))∧Below w.heap.size w w':=by
 have hd:=divOk_w (x:=(x.natAbs:Int)) h (by omega) (by omega)
 obtain⟨k,rfl,_,h2⟩:=w_nat h
 exact fit_any a x k w ha h2 hx hd
theorem twoI (z:Int)(w:World)(h0:0≤z)(h1:z≤64) :
  Calls Tryz.prog 102 #[.int .i64 z] w fun e w'=>e=.returned (.pointer (some ⟨w.heap.size,0,none⟩))∧Below w.heap.size w w'∧Big w' w.heap.size (2 ^ z.toNat):=by
 obtain⟨k,rfl⟩:∃ k:Nat,z=k:=⟨z.toNat,by omega⟩
 exact two_any k w (by omega)
theorem half_w {n:Int}(h:IsW n):2*2 ^ (n - 1).toNat=md n∧(0:Int)<2 ^ (n - 1).toNat∧0≤n - 1∧n≤64∧0≤n:=by
 rcases h with rfl|rfl|rfl|rfl <;> refine⟨by decide,by decide,by decide,by decide,by decide⟩
theorem qai {n:Int}(h:IsW n)(s:Bool)(x:Int):(mn s n x).natAbs≤18446744073709551615:=by
 have a:=cut_lo h x
 have b:=cut_hi h x
 have c:=cut_lt h x
 have d:=md_le h
 unfold mn sgn
 split
 ·split <;> omega
 ·omega
theorem qaq (x n:Int)(s:Bool)(w:World)(h:IsW n)(hx:U x) :
  Calls Tryz.prog 98 #[.int .u64 x,.int .i64 n,.bool s] w fun e w'=>∃ p,e=.returned (.pointer (some ⟨p,0,none⟩))∧w.heap.size≤p∧Below w.heap.size w w'∧Big w' p (mn s n x):=by
 obtain⟨h1,h2,h3,h4,h5⟩:=half_w h
 have c0:=cut_lo h x
 have c1:=cut_hi h x
 have c2:=cut_lt h x
 have mle:=md_le h
 have mpos:=md_pos h
 have b8:(18446744073709551616:Nat)<4294967296 ^ 6:=by decide
 have FA:=fun a w ha=>fitW a x n w ha h (by unfold U at hx;omega)
 have WA:=fun w=>qbr (cut n x) w (u_cut h x)
 have HU:=zX hx
 clear hx
 have T1:=fun w=>twoI (n - 1) w h3 (by omega)
 have T2:=fun w=>twoI n w h5 h4
 rw[show (2:Int) ^ n.toNat=md n from rfl] at T2
 generalize hm:mn s n x=M
 have HM:=zX hm
 clear hm
 generalize hC:cut n x=C at *
 have HC:=zX hC
 clear hC
 generalize hmd:md n=D at *
 have HMD:=zX hmd
 clear hmd
 generalize (2:Int) ^ (n - 1).toNat=E at *
 cases s
 ·obtain rfl:M=C:=by rw[← uX HM,← uX HC];rfl
  clear T1 T2
  go_enter Tryz.func98,Tryz.ntmps98
  go_wp2_with fail
  refine (qbr x w (uX HU)).mono ?_
  rintro e w1 ⟨rfl,k1,B1⟩
  have K1:=zX k1
  have HB1:=zX B1
  clear k1 B1
  go_wp2_with fail
  refine (FA _ _ (uX HB1)).mono ?_
  rintro e w2 ⟨rfl,k2⟩
  have K2:=zX ((uX K1).trans (k2.mono (uX K1).size))
  clear k2
  go_wp2_with fail
  refine (WA _).mono ?_
  rintro e w3 ⟨rfl,k3,B3⟩
  have K3:=zX ((uX K2).trans (k3.mono (uX K2).size))
  have HB3:=zX B3
  clear k3 B3
  go_wp2_with fail
  go_ret
  exact⟨_,rfl,(uX K2).size,uX K3,uX HB3⟩
 ·by_cases hs:2*C<D
  ·obtain rfl:M=C:=by
    have a:=uX HM
    unfold mn sgn at a
    rw[if_pos rfl,uX HC,uX HMD,if_pos hs] at a
    exact a.symm
   have hcm:cm M E=-1:=by unfold cm;rw[if_pos (by omega)]
   have CM:=fun p q w hp hq=>qaw p q M E w hp hq (by omega) (by omega)
   rw[hcm] at CM
   clear T2 hcm
   go_enter Tryz.func98,Tryz.ntmps98
   go_wp2_with fail
   refine (qbr x w (uX HU)).mono ?_
   rintro e w1 ⟨rfl,k1,B1⟩
   have K1:=zX k1
   have HB1:=zX B1
   clear k1 B1
   go_wp2_with fail
   refine (FA _ _ (uX HB1)).mono ?_
   rintro e w2 ⟨rfl,k2⟩
   have K2:=zX ((uX K1).trans (k2.mono (uX K1).size))
   clear k2
   go_wp2_with fail
   refine (WA _).mono ?_
   rintro e w3 ⟨rfl,k3,B3⟩
   have K3:=zX ((uX K2).trans (k3.mono (uX K2).size))
   have HB3:=zX B3
   clear k3 B3
   go_wp2_with fail
   refine (T1 _).mono ?_
   rintro e w4 ⟨rfl,k4,B4⟩
   have K4:=zX ((uX K3).trans (k4.mono (uX K3).size))
   have HB4:=zX B4
   have HB3:=zX ((uX HB3).step k4)
   clear k4 B4
   go_wp2_with fail
   refine (CM _ _ _ (uX HB3) (uX HB4)).mono ?_
   rintro e w5 ⟨⟨q,rfl⟩,rfl⟩
   go_wp2_with fail
   go_ret
   exact⟨_,rfl,(uX K2).size,⟨(uX K4).os,(uX K4).tape,(uX K4).output,(uX K4).size,(uX K4).block⟩,uX HB3⟩
  ·obtain rfl:M=C - D:=by
    have a:=uX HM
    unfold mn sgn at a
    rw[if_pos rfl,uX HC,uX HMD,if_neg hs] at a
    exact a.symm
   have hcm:0≤cm C E:=by unfold cm;rw[if_neg (by omega)];split <;> decide
   have CM:=fun p q w hp hq=>qaw p q C E w hp hq (by omega) (by omega)
   generalize cm C E=cv at *
   go_enter Tryz.func98,Tryz.ntmps98
   go_wp2_with fail
   refine (qbr x w (uX HU)).mono ?_
   rintro e w1 ⟨rfl,k1,B1⟩
   have K1:=zX k1
   have HB1:=zX B1
   clear k1 B1
   go_wp2_with fail
   refine (FA _ _ (uX HB1)).mono ?_
   rintro e w2 ⟨rfl,k2⟩
   have K2:=zX ((uX K1).trans (k2.mono (uX K1).size))
   clear k2
   go_wp2_with fail
   refine (WA _).mono ?_
   rintro e w3 ⟨rfl,k3,B3⟩
   have K3:=zX ((uX K2).trans (k3.mono (uX K2).size))
   have HB3:=zX B3
   clear k3 B3
   go_wp2_with fail
   refine (T1 _).mono ?_
   rintro e w4 ⟨rfl,k4,B4⟩
   have K4:=zX ((uX K3).trans (k4.mono (uX K3).size))
   have HB4:=zX B4
   have HB3:=zX ((uX HB3).step k4)
   clear k4 B4
   go_wp2_with fail
   refine (CM _ _ _ (uX HB3) (uX HB4)).mono ?_
   rintro e w5 ⟨⟨q,rfl⟩,rfl⟩
   have HB5:Hid (Big (w4.drewN q) w2.heap.size C):=uX HB3
   have K5:Hid (Below w.heap.size w (w4.drewN q)):=⟨(uX K4).os,(uX K4).tape,(uX K4).output,(uX K4).size,(uX K4).block⟩
   generalize w4.drewN q=w5 at *
   go_wp2_with fail
   refine (T2 _).mono ?_
   rintro e w6 ⟨rfl,k6,B6⟩
   have K6:=zX ((uX K5).trans (k6.mono (uX K5).size))
   have HB6:=zX B6
   have HB7:=zX ((uX HB5).step k6)
   have ne:w5.heap.size≠w2.heap.size:=by have:=(uX HB5).lt;omega
   clear k6 B6
   go_wp2_with fail
   refine (sub_big w2.heap.size w2.heap.size w5.heap.size C D _ (uX HB7).int (uX HB7) (uX HB6) ne (by omega) (by omega)).mono ?_
   rintro e w7 ⟨rfl,k7,B7⟩
   have K7:=zX ((uX K6).trans (k7.below (uX K2).size (uX K6).size))
   have HB8:=zX B7
   clear k7 B7
   go_wp2_with fail
   go_ret
   exact⟨_,rfl,(uX K2).size,uX K7,uX HB8⟩
theorem qab (b:Int)(s:Bool)(w:World)(h:IsW b):Calls Tryz.prog 36 #[.agg #[.int .i64 b,.bool s]] w fun e w'=>e=.returned (.bool true)∧Below w.heap.size w w':=by
 go_enter Tryz.func36,Tryz.ntmps36
 go_wp2_with (go_at_call 58;refine (qau _ h _).mono ?_;rintro e w1 ⟨rfl,k1⟩)
 go_ret
 exact⟨rfl,bT (qaa _ _) k1⟩
theorem rvalid7_no (b:Int)(s:Bool)(w:World)(h:NoW b):Calls Tryz.prog 36 #[.agg #[.int .i64 b,.bool s]] w fun e w'=>e=.returned (.bool false)∧Below w.heap.size w w':=by
 go_enter Tryz.func36,Tryz.ntmps36
 go_wp2_with (go_at_call 58;refine (rwidth_no _ _ h).mono ?_;rintro e w1 ⟨rfl,k1⟩)
 go_ret
 exact⟨rfl,bT (qaa _ _) k1⟩
theorem qbj (b:Int)(s:Bool)(w:World):Calls Tryz.prog 62 #[.agg #[.int .i64 b,.bool s]] w fun e w'=>e=.returned (.agg #[.int .i64 (pb b),.bool (ps b s)])∧Below w.heap.size w w':=by
 by_cases h:b<16
 ·have e1:pb b=16:=by unfold pb;rw[if_pos h]
  have e2:ps b s=true:=by unfold ps;rw[if_pos h]
  rw[e1,e2]
  have h0:decide (b<16)=true:=by simpa using h
  clear e1 e2
  go_enter Tryz.func62,Tryz.ntmps62
  go_wp2
  exact bodyPost_ret (v:=.agg #[.int .i64 16,.bool true]) (by simp[results,Tryz.results62,go_sem]) rfl ⟨rfl,(by repeat (first|exact (Below.refl _ _)|refine Below.setCell ?_ (by first|exact Nat.le_refl _|(simp;done)|omega|(simp;omega)) _|refine Below.alloc ?_ (by first|(simp;done)|omega|(simp;omega)) _))⟩
 ·have e1:pb b=b:=by unfold pb;rw[if_neg h]
  have e2:ps b s=s:=by unfold ps;rw[if_neg h]
  rw[e1,e2]
  have h0:decide (b<16)=false:=by simpa using h
  clear e1 e2
  go_enter Tryz.func62,Tryz.ntmps62
  go_wp2
  exact bodyPost_ret (v:=.agg #[.int .i64 b,.bool s]) (by simp[results,Tryz.results62,go_sem]) rfl ⟨rfl,(by repeat (first|exact (Below.refl _ _)|refine Below.setCell ?_ (by first|exact Nat.le_refl _|(simp;done)|omega|(simp;omega)) _|refine Below.alloc ?_ (by first|(simp;done)|omega|(simp;omega)) _))⟩
theorem qac (x b:Int)(s:Bool)(w:World)(h:IsW b)(hx:U x):Calls Tryz.prog 61 #[.int .u64 x,.agg #[.int .i64 b,.bool s]] w fun e w'=>∃ p,e=.returned (.pointer (some ⟨p,0,none⟩))∧w.heap.size≤p∧Below w.heap.size w w'∧Big w' p (mn s b x):=by
 go_enter Tryz.func61,Tryz.ntmps61
 go_wp2_with fail
 refine (qaq x b s _ h hx).mono ?_
 rintro e w1 ⟨p,rfl,hp,k1,B1⟩
 have hp':w.heap.size≤p:=by simp at hp;omega
 have K1:=zX (bT (qaa _ _) k1)
 have HB:=zX B1
 clear k1 B1 hp
 go_wp2_with fail
 go_ret
 exact⟨p,rfl,hp',uX K1,uX HB⟩
theorem qae (x a:Int)(s:Bool)(b:Int)(t:Bool)(w:World)(ha:IsW a)(hb:IsW b)(hx:U x):Calls Tryz.prog 38 #[.int .u64 x,.agg #[.int .i64 a,.bool s],.agg #[.int .i64 b,.bool t]] w fun e w'=>e=.returned (.int .u64 (conv x a s b))∧Below w.heap.size w w':=by
 have MA:=zX (fun (w:World)=>qac x a s w ha hx)
 have xa:=qai ha s x
 have b6:(18446744073709551616:Nat)<4294967296 ^ 6:=by decide
 unfold conv
 generalize mn s a x=M at *
 go_enter Tryz.func38,Tryz.ntmps38
 go_wp2_with fail
 have R0:=zX (Duo.new (w:=w) (T:=34) (a0:=.int .i64 a) (a1:=.bool s) (b0:=.int .i64 b) (b1:=.bool t) (Below.refl _ _))
 generalize (w.alloc (.cells #[.int .i64 a,.bool s] 34)).alloc (.cells #[.int .i64 b,.bool t] 34)=w0 at *
 obtain⟨x0,x1⟩:=(uX R0).A.at2
 obtain⟨x2,x3⟩:=(uX R0).B.at2
 refine zU (fun W=>W.cell? ⟨w.heap.size,0,none⟩=some (.int .i64 a)∧W.cell? ⟨w.heap.size,1,none⟩=some (.bool s)∧W.cell? ⟨w.heap.size+1,0,none⟩=some (.int .i64 b)) (by kernel_rfl) ?_
 refine qR 0 2 5 ?_
 simp only[zTD]
 repeat (refine zS (fun K hK=>?_);go_simp;first|(refine zQ ?_ (fun W hW=>?_) (hK _ ?_);rotate_left;(obtain⟨c1,c2,c3⟩:=hW;go_simp;first|done|rfl);clear hK K)|(refine hK _ ?_;clear hK K))
 refine zO ?_
 refine qR 3 2 3 ?_
 simp only[zTD]
 repeat (refine zS (fun K hK=>?_);go_simp;first|(refine zQ ?_ (fun W hW=>?_) (hK _ ?_);rotate_left;(obtain⟨c1,c2,c3⟩:=hW;go_simp;first|done|rfl);clear hK K)|(refine hK _ ?_;clear hK K))
 refine zO ?_
 refine qO 2 2 ⟨x0,x1,x2⟩ ?_
 simp only[zTD]
 go_wp2_with fail
 refine (uX MA _).mono ?_
 rintro e w2 ⟨p,rfl,hp,k2,G2⟩
 clear x0 x1 x2 x3
 have k2':=qbu k2
 have R2:=zX ((uX R0).step k2')
 have HB2:=zX G2
 clear R0 k2 k2' G2
 obtain⟨x0,x1⟩:=(uX R2).A.at2
 obtain⟨x2,x3⟩:=(uX R2).B.at2
 go_wp2_with fail
 first|refine zN ?_|refine zG ?_
 refine qO 5 1 ⟨x0,x1,x2⟩ ?_
 simp only[zTD]
 go_wp2_with fail
 refine (fitW p M b _ (uX HB2) hb (by omega)).mono ?_
 rintro e w3 ⟨rfl,k3⟩
 clear x0 x1 x2 x3
 have R:=zX ((uX R2).step k3)
 clear R2 k3 HB2
 obtain⟨x0,x1⟩:=(uX R).A.at2
 obtain⟨x2,x3⟩:=(uX R).B.at2
 go_wp2_with fail
 first|refine zN ?_|refine zG ?_
 refine qO 6 0 ⟨x0,x1,x2⟩ ?_
 simp only[zTD]
 go_wp2_with fail
 first|refine zN ?_|refine zG ?_
 refine zE (by kernel_rfl) ⟨x0,x1,x2⟩ ?_
 go_wp2_with fail
 go_ret
 exact⟨rfl,(uX R).bel⟩
abbrev TabI:=List (Int × ByteArray)
def tabI:TabI:=[(8,⟨#[56]⟩),(16,⟨#[49,54]⟩),(32,⟨#[51,50]⟩),(64,⟨#[54,52]⟩)]
def entI (n:Nat):Array MapEntry:=((tabI.take n).zipIdx.map fun p=>(⟨.int .i64 p.1.1,.string p.1.2,p.2⟩:MapEntry)).toArray
theorem run_putI (w:World)(n:Nat)(k:Int)(s:ByteArray)(hn:entI (n+1)=(entI n).push ⟨.int .i64 k,.string s,n⟩)(hf:Instr.findNow (.int .i64) (.int .i64 k) (entI n).toList 0=some none) :
  (Instr.mapUpdate 191 (.map (some w.heap.size)) (.int .i64 k) (.string s)).run Tryz.prog (w.alloc (.map (entI n) n))=.ok () (w.alloc (.map (entI (n+1)) (n+1))):=by
 have hb:(w.alloc (.map (entI n) n)).heap[w.heap.size]?=some (.map (entI n) n):=heapNew _ _
 unfold Instr.mapUpdate
 simp only[Sem.run_bind,run_underlying Tryz.underlying191,Result.andThen,Go.MapKept.run_getObj_map hb,Go.MapKept.run_checkKey Tryz.underlying3 (show Go.MapKept.IsKey (.int .i64) (.int .i64 k) from rfl),Go.MapKept.run_findKey Tryz.underlying3 hf,Go.MapKept.run_setObj_map _ hb]
 rw[alloc_set,hn]
theorem run_lookI (w:World)(b:Int)(h:IsW b):(Instr.lookup 191 (.map (some w.heap.size)) (.int .i64 b) false).run Tryz.prog (w.alloc (.map (entI 4) 4))=.ok (.string ⟨dgT b⟩) (w.alloc (.map (entI 4) 4)):=by
 have hb:(w.alloc (.map (entI 4) 4)).heap[w.heap.size]?=some (.map (entI 4) 4):=heapNew _ _
 have hf:∃ j,Instr.findNow (.int .i64) (.int .i64 b) (entI 4).toList 0=some (some (j,.string ⟨dgT b⟩)):=by
  rcases h with rfl|rfl|rfl|rfl
  ·exact⟨0,by kernel_rfl⟩
  ·exact⟨1,by kernel_rfl⟩
  ·exact⟨2,by kernel_rfl⟩
  ·exact⟨3,by kernel_rfl⟩
 obtain⟨j,hf⟩:=hf
 unfold Instr.lookup
 simp only[Sem.run_bind,run_underlying Tryz.underlying191,Result.andThen,Go.MapKept.run_getObj_map hb,Sem.run_pure,Go.MapKept.run_checkKey Tryz.underlying3 (show Go.MapKept.IsKey (.int .i64) (.int .i64 b) from rfl),Go.MapKept.run_findKey Tryz.underlying3 hf]
 rfl
theorem rname_yes (b:Int)(s:Bool)(w:World)(h:IsW b):Calls Tryz.prog 139 #[.agg #[.int .i64 b,.bool s]] w fun e w'=>e=.returned (.string (nmT b s))∧Below w.heap.size w w':=by
 have HV:=zX (fun (w:World)=>qab b s w h)
 have h0:(b==0)=false:=by rcases h with rfl|rfl|rfl|rfl <;> decide
 have hD:¬ (9223372036854775807<1+(dgT b).size):=by rcases h with rfl|rfl|rfl|rfl <;> decide
 have HL:=zX (fun w=>run_lookI w b h)
 have hmm:∀ w:World,(Instr.makeMap 191 none).run Tryz.prog w=.ok (.map (some w.heap.size)) (w.alloc (.map (entI 0) 0)):=fun w=>rfl
 have H0:=zX (fun w=>run_putI w 0 8 ⟨#[56]⟩ (by kernel_rfl) (by kernel_rfl))
 have H1:=zX (fun w=>run_putI w 1 16 ⟨#[49,54]⟩ (by kernel_rfl) (by kernel_rfl))
 have H2:=zX (fun w=>run_putI w 2 32 ⟨#[51,50]⟩ (by kernel_rfl) (by kernel_rfl))
 have H3:=zX (fun w=>run_putI w 3 64 ⟨#[54,52]⟩ (by kernel_rfl) (by kernel_rfl))
 cases s
 all_goals
  unfold nmT
  generalize dgT b=D at *
  go_enter Tryz.func139,Tryz.ntmps139
  go_wp2_with fail
  refine (uX HV _).mono ?_
  rintro e w1 ⟨rfl,k1⟩
  have R1:=zX ((Box.new w #[_,_] 34).step k1)
  obtain⟨x0,x1⟩:=(uX R1).at2
  have lw:=(uX R1).1
  have hl:=uX HL w1
  have h0':=uX H0 w1
  have h1':=uX H1 w1
  have h2':=uX H2 w1
  have h3':=uX H3 w1
  simp only[Nat.reduceAdd] at h0' h1' h2' h3'
  generalize entI 0=e0 at *
  generalize entI 1=e1 at *
  generalize entI 2=e2 at *
  generalize entI 3=e3 at *
  generalize entI 4=e4 at *
  go_wp2_with fail
  go_ret
  exact⟨rfl,bT (qaa _ _) (bT k1 (qaa _ _))⟩
theorem bl_ne {a b:ByteArray}(h:a≠b):(a.toList==b.toList)=false:=by
 rw[← beq_toListBytes]
 cases e:(a==b)
 ·rfl
 ·exact absurd ((Go.MapKept.bytes_beq a b).1 e) h
theorem named_none {z:ByteArray}(h:∀ b s,IsW b→nmT b s≠z):nb z=0∧ng z=false∧nk z=false:=by
 cases e:nk z
 ·unfold nk at e
  unfold nb ng
  cases e':look tab z with
  | none=>exact⟨rfl,rfl,rfl⟩
  | some r=>rw[e'] at e;cases e
 ·obtain⟨h1,h2⟩:=named_yes e
  exact absurd h2 (h _ _ h1)
def wid (k:Nat):Int:=[8,16,32,64].getD k 0
theorem wid_step {i:Nat}{z:ByteArray}(h:∀ k,k<i→∀ g,nmT (wid k) g≠z)(h1:nmT (wid i) true≠z)(h2:nmT (wid i) false≠z):∀ k,k<i+1→∀ g,nmT (wid k) g≠z:=by
 intro k hk g
 by_cases e:k=i
 ·subst e
  cases g
  ·exact h2
  ·exact h1
 ·exact h k (by omega) g
theorem wid_all {z:ByteArray}(h:∀ k,k<4→∀ g,nmT (wid k) g≠z):∀ b s,IsW b→nmT b s≠z:=by
 intro b s hb
 rcases hb with rfl|rfl|rfl|rfl
 ·exact h 0 (by decide) s
 ·exact h 1 (by decide) s
 ·exact h 2 (by decide) s
 ·exact h 3 (by decide) s
theorem rnamed_any (z:ByteArray)(w:World):Calls Tryz.prog 99 #[.string z] w fun e w'=>e=.returned (.tuple #[.agg #[.int .i64 (nb z),.bool (ng z)],.bool (nk z)])∧Below w.heap.size w w':=by
 have HX0:=zX (named_none (z:=z))
 obtain⟨B,HX1⟩:∃ B,Hid (nb z=B):=⟨_,rfl⟩
 obtain⟨G,HX2⟩:∃ G,Hid (ng z=G):=⟨_,rfl⟩
 obtain⟨K,HX3⟩:∃ K,Hid (nk z=K):=⟨_,rfl⟩
 rw[uX HX1,uX HX2,uX HX3]
 rw[uX HX1,uX HX2,uX HX3] at HX0
 go_enter Tryz.func99,Tryz.ntmps99
 go_wp2_with fail
 have I0:Hid (Below w.heap.size w ((w.alloc (.cells #[.int .i64 0,.bool false] 34)).alloc (.cells #[.int .i64 8,.int .i64 16,.int .i64 32,.int .i64 64] 3))∧Box ((w.alloc (.cells #[.int .i64 0,.bool false] 34)).alloc (.cells #[.int .i64 8,.int .i64 16,.int .i64 32,.int .i64 64] 3)) w.heap.size [.int .i64 0,.bool false]∧Box ((w.alloc (.cells #[.int .i64 0,.bool false] 34)).alloc (.cells #[.int .i64 8,.int .i64 16,.int .i64 32,.int .i64 64] 3)) (w.heap.size+1) [.int .i64 8,.int .i64 16,.int .i64 32,.int .i64 64]):=by
  have B2:=Box.new (w.alloc (.cells #[.int .i64 0,.bool false] 34)) #[.int .i64 8,.int .i64 16,.int .i64 32,.int .i64 64] 3
  rw[World.size_alloc] at B2
  exact⟨bT (qaa _ _) (qaa _ _),(Box.new w #[.int .i64 0,.bool false] 34).step (qaa _ _),B2⟩
 generalize (w.alloc (.cells #[.int .i64 0,.bool false] 34)).alloc (.cells #[.int .i64 8,.int .i64 16,.int .i64 32,.int .i64 64] 3)=wa at *
 go_loopg [11] 4 (fun g t wr=>∃ i:Nat,i≤4∧g=4 - i∧t=.int .i64 i∧Hid (Below w.heap.size w wr∧Box wr w.heap.size [.int .i64 0,.bool false]∧Box wr (w.heap.size+1) [.int .i64 8,.int .i64 16,.int .i64 32,.int .i64 64])∧Hid (∀ k,k<i→∀ g,nmT (wid k) g≠z))
 case atStart=>exact⟨0,by decide,rfl,rfl,I0,(fun k hk=>by omega)⟩
 case round =>
  obtain⟨i,hi,hg,rfl,I,N⟩:=hrel
  clear I0
  have hi5:i=0∨i=1∨i=2∨i=3∨i=4:=by omega
  obtain⟨x0,x1,x2,x3⟩:=(uX I).2.2.at4
  have li:=(uX I).2.2.1
  rcases hi5 with rfl|rfl|rfl|rfl|rfl
  ·go_wp2_with fail
   have I0:=zX (And.intro (bT (uX I).1 (qaa wr (.cells #[.bool true,.bool false] 4))) (And.intro ((uX I).2.1.step (qaa wr (.cells #[.bool true,.bool false] 4))) (And.intro ((uX I).2.2.step (qaa wr (.cells #[.bool true,.bool false] 4))) (Box.new wr #[.bool true,.bool false] 4))))
   generalize wr.alloc (.cells #[.bool true,.bool false] 4)=wi at *
   generalize wr.heap.size=pi at *
   go_loopg [17] 2 (fun g t ws=>∃ j:Nat,j≤2∧g=2 - j∧t=.int .i64 j∧Hid (Below w.heap.size w ws∧Box ws w.heap.size [.int .i64 0,.bool false]∧Box ws (w.heap.size+1) [.int .i64 8,.int .i64 16,.int .i64 32,.int .i64 64]∧Box ws pi [.bool true,.bool false])∧Hid (1≤j→nmT 8 true≠z)∧Hid (2≤j→nmT 8 false≠z))
   case atStart=>exact⟨0,by decide,rfl,rfl,I0,(fun h=>by omega),(fun h=>by omega)⟩
   case round =>
    obtain⟨j,hj,hgj,rfl,J,n1,n2⟩:=hrel
    clear I0 I
    have hj3:j=0∨j=1∨j=2:=by omega
    obtain⟨y0,y1⟩:=(uX J).2.2.2.at2
    have lr:=(uX J).2.1.1
    rcases hj3 with rfl|rfl|rfl
    ·have HN:=zX (fun (u:World)=>rname_yes 8 true u (by first|exact .inl rfl|exact .inr (.inl rfl)|exact .inr (.inr (.inl rfl))|exact .inr (.inr (.inr rfl))))
     have nn:=qbw (b:=8) (by first|exact .inl rfl|exact .inr (.inl rfl)|exact .inr (.inr (.inl rfl))|exact .inr (.inr (.inr rfl))) true
     go_wp2_with fail
     refine (uX HN _).mono ?_
     rintro e wt ⟨rfl,kt⟩
     have kt':=bT (qaa wr (.cells #[.int .i64 8,.bool true] 34)) kt
     have L:=zX (And.intro (bT (uX J).1 kt') (And.intro ((uX J).2.1.step kt') (And.intro ((uX J).2.2.1.step kt') ((uX J).2.2.2.step kt'))))
     have T:=zX ((Box.new wr #[.int .i64 8,.bool true] 34).step kt)
     clear kt kt' J y0 y1
     generalize wr.heap.size=pt at *
     obtain⟨t0,t1⟩:=(uX T).at2
     obtain⟨r0,r1⟩:=(uX L).2.1.at2
     have rf:=(uX L).2.1.2.2
     by_cases hz:nmT 8 true=z
     ·rw[hz] at nn
      have bz:((nmT 8 true).toList==z.toList)=true:=by rw[hz];simp
      generalize nmT 8 true=nm at *
      obtain⟨q1,q2,q3⟩:=nn
      rw[q1] at HX1
      rw[q2] at HX2
      rw[q3] at HX3
      unfold Hid at HX1 HX2 HX3
      subst HX1 HX2 HX3
      have p0:=(uX L).2.1.put0
      have p1:=(uX L).2.1.put1
      go_wp2_with fail
      exact bodyPost_ret (v:=.tuple #[.agg #[.int .i64 8,.bool true],.bool true]) (by simp[results,Tryz.results99,go_sem,p0,p1]) rfl ⟨rfl,zY (uX L).1 (Nat.le_refl _) _ _⟩
     ·have bz:((nmT 8 true).toList==z.toList)=false:=bl_ne hz
      clear nn
      have hz':=zX hz
      clear hz
      go_wp2_with fail
      go_roundg 1
      case measure=>omega
      case rel=>exact⟨1,by decide,rfl,rfl,L,(fun _=>uX hz'),(fun h=>by omega)⟩
    ·have HN:=zX (fun (u:World)=>rname_yes 8 false u (by first|exact .inl rfl|exact .inr (.inl rfl)|exact .inr (.inr (.inl rfl))|exact .inr (.inr (.inr rfl))))
     have nn:=qbw (b:=8) (by first|exact .inl rfl|exact .inr (.inl rfl)|exact .inr (.inr (.inl rfl))|exact .inr (.inr (.inr rfl))) false
     go_wp2_with fail
     refine (uX HN _).mono ?_
     rintro e wt ⟨rfl,kt⟩
     have kt':=bT (qaa wr (.cells #[.int .i64 8,.bool false] 34)) kt
     have L:=zX (And.intro (bT (uX J).1 kt') (And.intro ((uX J).2.1.step kt') (And.intro ((uX J).2.2.1.step kt') ((uX J).2.2.2.step kt'))))
     have T:=zX ((Box.new wr #[.int .i64 8,.bool false] 34).step kt)
     clear kt kt' J y0 y1
     generalize wr.heap.size=pt at *
     obtain⟨t0,t1⟩:=(uX T).at2
     obtain⟨r0,r1⟩:=(uX L).2.1.at2
     have rf:=(uX L).2.1.2.2
     by_cases hz:nmT 8 false=z
     ·rw[hz] at nn
      have bz:((nmT 8 false).toList==z.toList)=true:=by rw[hz];simp
      generalize nmT 8 false=nm at *
      obtain⟨q1,q2,q3⟩:=nn
      rw[q1] at HX1
      rw[q2] at HX2
      rw[q3] at HX3
      unfold Hid at HX1 HX2 HX3
      subst HX1 HX2 HX3
      have p0:=(uX L).2.1.put0
      have p1:=(uX L).2.1.put1
      go_wp2_with fail
      exact bodyPost_ret (v:=.tuple #[.agg #[.int .i64 8,.bool false],.bool true]) (by simp[results,Tryz.results99,go_sem,p0,p1]) rfl ⟨rfl,zY (uX L).1 (Nat.le_refl _) _ _⟩
     ·have bz:((nmT 8 false).toList==z.toList)=false:=bl_ne hz
      clear nn
      have hz':=zX hz
      clear hz
      go_wp2_with fail
      go_roundg 0
      case measure=>omega
      case rel=>exact⟨2,by decide,rfl,rfl,L,(fun _=>(uX n1) (by decide)),(fun _=>uX hz')⟩
    ·go_wp2_with fail
     go_roundg 3
     case measure=>omega
     case rel=>exact⟨1,by decide,rfl,rfl,zX (And.intro (uX J).1 (And.intro (uX J).2.1 (uX J).2.2.1)),wid_step (uX N) ((uX n1) (by decide)) ((uX n2) (by decide))⟩
  ·go_wp2_with fail
   have I0:=zX (And.intro (bT (uX I).1 (qaa wr (.cells #[.bool true,.bool false] 4))) (And.intro ((uX I).2.1.step (qaa wr (.cells #[.bool true,.bool false] 4))) (And.intro ((uX I).2.2.step (qaa wr (.cells #[.bool true,.bool false] 4))) (Box.new wr #[.bool true,.bool false] 4))))
   generalize wr.alloc (.cells #[.bool true,.bool false] 4)=wi at *
   generalize wr.heap.size=pi at *
   go_loopg [17] 2 (fun g t ws=>∃ j:Nat,j≤2∧g=2 - j∧t=.int .i64 j∧Hid (Below w.heap.size w ws∧Box ws w.heap.size [.int .i64 0,.bool false]∧Box ws (w.heap.size+1) [.int .i64 8,.int .i64 16,.int .i64 32,.int .i64 64]∧Box ws pi [.bool true,.bool false])∧Hid (1≤j→nmT 16 true≠z)∧Hid (2≤j→nmT 16 false≠z))
   case atStart=>exact⟨0,by decide,rfl,rfl,I0,(fun h=>by omega),(fun h=>by omega)⟩
   case round =>
    obtain⟨j,hj,hgj,rfl,J,n1,n2⟩:=hrel
    clear I0 I
    have hj3:j=0∨j=1∨j=2:=by omega
    obtain⟨y0,y1⟩:=(uX J).2.2.2.at2
    have lr:=(uX J).2.1.1
    rcases hj3 with rfl|rfl|rfl
    ·have HN:=zX (fun (u:World)=>rname_yes 16 true u (by first|exact .inl rfl|exact .inr (.inl rfl)|exact .inr (.inr (.inl rfl))|exact .inr (.inr (.inr rfl))))
     have nn:=qbw (b:=16) (by first|exact .inl rfl|exact .inr (.inl rfl)|exact .inr (.inr (.inl rfl))|exact .inr (.inr (.inr rfl))) true
     go_wp2_with fail
     refine (uX HN _).mono ?_
     rintro e wt ⟨rfl,kt⟩
     have kt':=bT (qaa wr (.cells #[.int .i64 16,.bool true] 34)) kt
     have L:=zX (And.intro (bT (uX J).1 kt') (And.intro ((uX J).2.1.step kt') (And.intro ((uX J).2.2.1.step kt') ((uX J).2.2.2.step kt'))))
     have T:=zX ((Box.new wr #[.int .i64 16,.bool true] 34).step kt)
     clear kt kt' J y0 y1
     generalize wr.heap.size=pt at *
     obtain⟨t0,t1⟩:=(uX T).at2
     obtain⟨r0,r1⟩:=(uX L).2.1.at2
     have rf:=(uX L).2.1.2.2
     by_cases hz:nmT 16 true=z
     ·rw[hz] at nn
      have bz:((nmT 16 true).toList==z.toList)=true:=by rw[hz];simp
      generalize nmT 16 true=nm at *
      obtain⟨q1,q2,q3⟩:=nn
      rw[q1] at HX1
      rw[q2] at HX2
      rw[q3] at HX3
      unfold Hid at HX1 HX2 HX3
      subst HX1 HX2 HX3
      have p0:=(uX L).2.1.put0
      have p1:=(uX L).2.1.put1
      go_wp2_with fail
      exact bodyPost_ret (v:=.tuple #[.agg #[.int .i64 16,.bool true],.bool true]) (by simp[results,Tryz.results99,go_sem,p0,p1]) rfl ⟨rfl,zY (uX L).1 (Nat.le_refl _) _ _⟩
     ·have bz:((nmT 16 true).toList==z.toList)=false:=bl_ne hz
      clear nn
      have hz':=zX hz
      clear hz
      go_wp2_with fail
      go_roundg 1
      case measure=>omega
      case rel=>exact⟨1,by decide,rfl,rfl,L,(fun _=>uX hz'),(fun h=>by omega)⟩
    ·have HN:=zX (fun (u:World)=>rname_yes 16 false u (by first|exact .inl rfl|exact .inr (.inl rfl)|exact .inr (.inr (.inl rfl))|exact .inr (.inr (.inr rfl))))
     have nn:=qbw (b:=16) (by first|exact .inl rfl|exact .inr (.inl rfl)|exact .inr (.inr (.inl rfl))|exact .inr (.inr (.inr rfl))) false
     go_wp2_with fail
     refine (uX HN _).mono ?_
     rintro e wt ⟨rfl,kt⟩
     have kt':=bT (qaa wr (.cells #[.int .i64 16,.bool false] 34)) kt
     have L:=zX (And.intro (bT (uX J).1 kt') (And.intro ((uX J).2.1.step kt') (And.intro ((uX J).2.2.1.step kt') ((uX J).2.2.2.step kt'))))
     have T:=zX ((Box.new wr #[.int .i64 16,.bool false] 34).step kt)
     clear kt kt' J y0 y1
     generalize wr.heap.size=pt at *
     obtain⟨t0,t1⟩:=(uX T).at2
     obtain⟨r0,r1⟩:=(uX L).2.1.at2
     have rf:=(uX L).2.1.2.2
     by_cases hz:nmT 16 false=z
     ·rw[hz] at nn
      have bz:((nmT 16 false).toList==z.toList)=true:=by rw[hz];simp
      generalize nmT 16 false=nm at *
      obtain⟨q1,q2,q3⟩:=nn
      rw[q1] at HX1
      rw[q2] at HX2
      rw[q3] at HX3
      unfold Hid at HX1 HX2 HX3
      subst HX1 HX2 HX3
      have p0:=(uX L).2.1.put0
      have p1:=(uX L).2.1.put1
      go_wp2_with fail
      exact bodyPost_ret (v:=.tuple #[.agg #[.int .i64 16,.bool false],.bool true]) (by simp[results,Tryz.results99,go_sem,p0,p1]) rfl ⟨rfl,zY (uX L).1 (Nat.le_refl _) _ _⟩
     ·have bz:((nmT 16 false).toList==z.toList)=false:=bl_ne hz
      clear nn
      have hz':=zX hz
      clear hz
      go_wp2_with fail
      go_roundg 0
      case measure=>omega
      case rel=>exact⟨2,by decide,rfl,rfl,L,(fun _=>(uX n1) (by decide)),(fun _=>uX hz')⟩
    ·go_wp2_with fail
     go_roundg 2
     case measure=>omega
     case rel=>exact⟨2,by decide,rfl,rfl,zX (And.intro (uX J).1 (And.intro (uX J).2.1 (uX J).2.2.1)),wid_step (uX N) ((uX n1) (by decide)) ((uX n2) (by decide))⟩
  ·go_wp2_with fail
   have I0:=zX (And.intro (bT (uX I).1 (qaa wr (.cells #[.bool true,.bool false] 4))) (And.intro ((uX I).2.1.step (qaa wr (.cells #[.bool true,.bool false] 4))) (And.intro ((uX I).2.2.step (qaa wr (.cells #[.bool true,.bool false] 4))) (Box.new wr #[.bool true,.bool false] 4))))
   generalize wr.alloc (.cells #[.bool true,.bool false] 4)=wi at *
   generalize wr.heap.size=pi at *
   go_loopg [17] 2 (fun g t ws=>∃ j:Nat,j≤2∧g=2 - j∧t=.int .i64 j∧Hid (Below w.heap.size w ws∧Box ws w.heap.size [.int .i64 0,.bool false]∧Box ws (w.heap.size+1) [.int .i64 8,.int .i64 16,.int .i64 32,.int .i64 64]∧Box ws pi [.bool true,.bool false])∧Hid (1≤j→nmT 32 true≠z)∧Hid (2≤j→nmT 32 false≠z))
   case atStart=>exact⟨0,by decide,rfl,rfl,I0,(fun h=>by omega),(fun h=>by omega)⟩
   case round =>
    obtain⟨j,hj,hgj,rfl,J,n1,n2⟩:=hrel
    clear I0 I
    have hj3:j=0∨j=1∨j=2:=by omega
    obtain⟨y0,y1⟩:=(uX J).2.2.2.at2
    have lr:=(uX J).2.1.1
    rcases hj3 with rfl|rfl|rfl
    ·have HN:=zX (fun (u:World)=>rname_yes 32 true u (by first|exact .inl rfl|exact .inr (.inl rfl)|exact .inr (.inr (.inl rfl))|exact .inr (.inr (.inr rfl))))
     have nn:=qbw (b:=32) (by first|exact .inl rfl|exact .inr (.inl rfl)|exact .inr (.inr (.inl rfl))|exact .inr (.inr (.inr rfl))) true
     go_wp2_with fail
     refine (uX HN _).mono ?_
     rintro e wt ⟨rfl,kt⟩
     have kt':=bT (qaa wr (.cells #[.int .i64 32,.bool true] 34)) kt
     have L:=zX (And.intro (bT (uX J).1 kt') (And.intro ((uX J).2.1.step kt') (And.intro ((uX J).2.2.1.step kt') ((uX J).2.2.2.step kt'))))
     have T:=zX ((Box.new wr #[.int .i64 32,.bool true] 34).step kt)
     clear kt kt' J y0 y1
     generalize wr.heap.size=pt at *
     obtain⟨t0,t1⟩:=(uX T).at2
     obtain⟨r0,r1⟩:=(uX L).2.1.at2
     have rf:=(uX L).2.1.2.2
     by_cases hz:nmT 32 true=z
     ·rw[hz] at nn
      have bz:((nmT 32 true).toList==z.toList)=true:=by rw[hz];simp
      generalize nmT 32 true=nm at *
      obtain⟨q1,q2,q3⟩:=nn
      rw[q1] at HX1
      rw[q2] at HX2
      rw[q3] at HX3
      unfold Hid at HX1 HX2 HX3
      subst HX1 HX2 HX3
      have p0:=(uX L).2.1.put0
      have p1:=(uX L).2.1.put1
      go_wp2_with fail
      exact bodyPost_ret (v:=.tuple #[.agg #[.int .i64 32,.bool true],.bool true]) (by simp[results,Tryz.results99,go_sem,p0,p1]) rfl ⟨rfl,zY (uX L).1 (Nat.le_refl _) _ _⟩
     ·have bz:((nmT 32 true).toList==z.toList)=false:=bl_ne hz
      clear nn
      have hz':=zX hz
      clear hz
      go_wp2_with fail
      go_roundg 1
      case measure=>omega
      case rel=>exact⟨1,by decide,rfl,rfl,L,(fun _=>uX hz'),(fun h=>by omega)⟩
    ·have HN:=zX (fun (u:World)=>rname_yes 32 false u (by first|exact .inl rfl|exact .inr (.inl rfl)|exact .inr (.inr (.inl rfl))|exact .inr (.inr (.inr rfl))))
     have nn:=qbw (b:=32) (by first|exact .inl rfl|exact .inr (.inl rfl)|exact .inr (.inr (.inl rfl))|exact .inr (.inr (.inr rfl))) false
     go_wp2_with fail
     refine (uX HN _).mono ?_
     rintro e wt ⟨rfl,kt⟩
     have kt':=bT (qaa wr (.cells #[.int .i64 32,.bool false] 34)) kt
     have L:=zX (And.intro (bT (uX J).1 kt') (And.intro ((uX J).2.1.step kt') (And.intro ((uX J).2.2.1.step kt') ((uX J).2.2.2.step kt'))))
     have T:=zX ((Box.new wr #[.int .i64 32,.bool false] 34).step kt)
     clear kt kt' J y0 y1
     generalize wr.heap.size=pt at *
     obtain⟨t0,t1⟩:=(uX T).at2
     obtain⟨r0,r1⟩:=(uX L).2.1.at2
     have rf:=(uX L).2.1.2.2
     by_cases hz:nmT 32 false=z
     ·rw[hz] at nn
      have bz:((nmT 32 false).toList==z.toList)=true:=by rw[hz];simp
      generalize nmT 32 false=nm at *
      obtain⟨q1,q2,q3⟩:=nn
      rw[q1] at HX1
      rw[q2] at HX2
      rw[q3] at HX3
      unfold Hid at HX1 HX2 HX3
      subst HX1 HX2 HX3
      have p0:=(uX L).2.1.put0
      have p1:=(uX L).2.1.put1
      go_wp2_with fail
      exact bodyPost_ret (v:=.tuple #[.agg #[.int .i64 32,.bool false],.bool true]) (by simp[results,Tryz.results99,go_sem,p0,p1]) rfl ⟨rfl,zY (uX L).1 (Nat.le_refl _) _ _⟩
     ·have bz:((nmT 32 false).toList==z.toList)=false:=bl_ne hz
      clear nn
      have hz':=zX hz
      clear hz
      go_wp2_with fail
      go_roundg 0
      case measure=>omega
      case rel=>exact⟨2,by decide,rfl,rfl,L,(fun _=>(uX n1) (by decide)),(fun _=>uX hz')⟩
    ·go_wp2_with fail
     go_roundg 1
     case measure=>omega
     case rel=>exact⟨3,by decide,rfl,rfl,zX (And.intro (uX J).1 (And.intro (uX J).2.1 (uX J).2.2.1)),wid_step (uX N) ((uX n1) (by decide)) ((uX n2) (by decide))⟩
  ·go_wp2_with fail
   have I0:=zX (And.intro (bT (uX I).1 (qaa wr (.cells #[.bool true,.bool false] 4))) (And.intro ((uX I).2.1.step (qaa wr (.cells #[.bool true,.bool false] 4))) (And.intro ((uX I).2.2.step (qaa wr (.cells #[.bool true,.bool false] 4))) (Box.new wr #[.bool true,.bool false] 4))))
   generalize wr.alloc (.cells #[.bool true,.bool false] 4)=wi at *
   generalize wr.heap.size=pi at *
   go_loopg [17] 2 (fun g t ws=>∃ j:Nat,j≤2∧g=2 - j∧t=.int .i64 j∧Hid (Below w.heap.size w ws∧Box ws w.heap.size [.int .i64 0,.bool false]∧Box ws (w.heap.size+1) [.int .i64 8,.int .i64 16,.int .i64 32,.int .i64 64]∧Box ws pi [.bool true,.bool false])∧Hid (1≤j→nmT 64 true≠z)∧Hid (2≤j→nmT 64 false≠z))
   case atStart=>exact⟨0,by decide,rfl,rfl,I0,(fun h=>by omega),(fun h=>by omega)⟩
   case round =>
    obtain⟨j,hj,hgj,rfl,J,n1,n2⟩:=hrel
    clear I0 I
    have hj3:j=0∨j=1∨j=2:=by omega
    obtain⟨y0,y1⟩:=(uX J).2.2.2.at2
    have lr:=(uX J).2.1.1
    rcases hj3 with rfl|rfl|rfl
    ·have HN:=zX (fun (u:World)=>rname_yes 64 true u (by first|exact .inl rfl|exact .inr (.inl rfl)|exact .inr (.inr (.inl rfl))|exact .inr (.inr (.inr rfl))))
     have nn:=qbw (b:=64) (by first|exact .inl rfl|exact .inr (.inl rfl)|exact .inr (.inr (.inl rfl))|exact .inr (.inr (.inr rfl))) true
     go_wp2_with fail
     refine (uX HN _).mono ?_
     rintro e wt ⟨rfl,kt⟩
     have kt':=bT (qaa wr (.cells #[.int .i64 64,.bool true] 34)) kt
     have L:=zX (And.intro (bT (uX J).1 kt') (And.intro ((uX J).2.1.step kt') (And.intro ((uX J).2.2.1.step kt') ((uX J).2.2.2.step kt'))))
     have T:=zX ((Box.new wr #[.int .i64 64,.bool true] 34).step kt)
     clear kt kt' J y0 y1
     generalize wr.heap.size=pt at *
     obtain⟨t0,t1⟩:=(uX T).at2
     obtain⟨r0,r1⟩:=(uX L).2.1.at2
     have rf:=(uX L).2.1.2.2
     by_cases hz:nmT 64 true=z
     ·rw[hz] at nn
      have bz:((nmT 64 true).toList==z.toList)=true:=by rw[hz];simp
      generalize nmT 64 true=nm at *
      obtain⟨q1,q2,q3⟩:=nn
      rw[q1] at HX1
      rw[q2] at HX2
      rw[q3] at HX3
      unfold Hid at HX1 HX2 HX3
      subst HX1 HX2 HX3
      have p0:=(uX L).2.1.put0
      have p1:=(uX L).2.1.put1
      go_wp2_with fail
      exact bodyPost_ret (v:=.tuple #[.agg #[.int .i64 64,.bool true],.bool true]) (by simp[results,Tryz.results99,go_sem,p0,p1]) rfl ⟨rfl,zY (uX L).1 (Nat.le_refl _) _ _⟩
     ·have bz:((nmT 64 true).toList==z.toList)=false:=bl_ne hz
      clear nn
      have hz':=zX hz
      clear hz
      go_wp2_with fail
      go_roundg 1
      case measure=>omega
      case rel=>exact⟨1,by decide,rfl,rfl,L,(fun _=>uX hz'),(fun h=>by omega)⟩
    ·have HN:=zX (fun (u:World)=>rname_yes 64 false u (by first|exact .inl rfl|exact .inr (.inl rfl)|exact .inr (.inr (.inl rfl))|exact .inr (.inr (.inr rfl))))
     have nn:=qbw (b:=64) (by first|exact .inl rfl|exact .inr (.inl rfl)|exact .inr (.inr (.inl rfl))|exact .inr (.inr (.inr rfl))) false
     go_wp2_with fail
     refine (uX HN _).mono ?_
     rintro e wt ⟨rfl,kt⟩
     have kt':=bT (qaa wr (.cells #[.int .i64 64,.bool false] 34)) kt
     have L:=zX (And.intro (bT (uX J).1 kt') (And.intro ((uX J).2.1.step kt') (And.intro ((uX J).2.2.1.step kt') ((uX J).2.2.2.step kt'))))
     have T:=zX ((Box.new wr #[.int .i64 64,.bool false] 34).step kt)
     clear kt kt' J y0 y1
     generalize wr.heap.size=pt at *
     obtain⟨t0,t1⟩:=(uX T).at2
     obtain⟨r0,r1⟩:=(uX L).2.1.at2
     have rf:=(uX L).2.1.2.2
     by_cases hz:nmT 64 false=z
     ·rw[hz] at nn
      have bz:((nmT 64 false).toList==z.toList)=true:=by rw[hz];simp
      generalize nmT 64 false=nm at *
      obtain⟨q1,q2,q3⟩:=nn
      rw[q1] at HX1
      rw[q2] at HX2
      rw[q3] at HX3
      unfold Hid at HX1 HX2 HX3
      subst HX1 HX2 HX3
      have p0:=(uX L).2.1.put0
      have p1:=(uX L).2.1.put1
      go_wp2_with fail
      exact bodyPost_ret (v:=.tuple #[.agg #[.int .i64 64,.bool false],.bool true]) (by simp[results,Tryz.results99,go_sem,p0,p1]) rfl ⟨rfl,zY (uX L).1 (Nat.le_refl _) _ _⟩
     ·have bz:((nmT 64 false).toList==z.toList)=false:=bl_ne hz
      clear nn
      have hz':=zX hz
      clear hz
      go_wp2_with fail
      go_roundg 0
      case measure=>omega
      case rel=>exact⟨2,by decide,rfl,rfl,L,(fun _=>(uX n1) (by decide)),(fun _=>uX hz')⟩
    ·go_wp2_with fail
     go_roundg 0
     case measure=>omega
     case rel=>exact⟨4,by decide,rfl,rfl,zX (And.intro (uX J).1 (And.intro (uX J).2.1 (uX J).2.2.1)),wid_step (uX N) ((uX n1) (by decide)) ((uX n2) (by decide))⟩
  ·have hn:=uX HX0 (wid_all (uX N))
   obtain⟨rfl,rfl,rfl⟩:=hn
   obtain⟨r0,r1⟩:=(uX I).2.1.at2
   have rf:=(uX I).2.1.2.2
   have p0:=(uX I).2.1.put0
   have p1:=(uX I).2.1.put1
   go_wp2_with fail
   exact bodyPost_ret (v:=.tuple #[.agg #[.int .i64 0,.bool false],.bool false]) (by simp[results,Tryz.results99,go_sem,p0,p1]) rfl ⟨rfl,zY (uX I).1 (Nat.le_refl _) _ _⟩
end Go.Proofs.YtjpnnmkefaodoaaGreat
