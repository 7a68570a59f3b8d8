/-
  CcC, CcD, CcE.
-/
import Derived.Test.YtjpnnmkefaodoaaGreatyDivy
set_option maxHeartbeats 8000000
set_option maxRecDepth 100000
namespace Go.Proofs.YtjpnnmkefaodoaaGreat
open Go.RowKit
set_option linter.unusedSimpArgs false
set_option linter.unusedVariables false
theorem Box.three {w:World}{b:Nat}{x y z:Value}(h:Box w b [x,y,z])(u v t:Value):Box (((w.setCell ⟨b,0,none⟩ u).setCell ⟨b,1,none⟩ v).setCell ⟨b,2,none⟩ t) b [u,v,t] :=
 ((h.set (j:=0) (u:=u) (by simp)).set (j:=1) (u:=v) (by simp)).set (j:=2) (u:=t) (by simp)
theorem qbs {B b:Nat}{u v:World}(h:Below B u v)(hb:B≤b)(a0 a1 a2:Value):Below B u (((v.setCell ⟨b,0,none⟩ a0).setCell ⟨b,1,none⟩ a1).setCell ⟨b,2,none⟩ a2):=Below.setCell (zY h hb a0 a1) hb _
theorem ci16_any (w:World):Calls Tryz.prog 25 #[] w fun e w'=>e=.returned (.agg #[.int .i64 16,.bool true])∧Below w.heap.size w w':=by
 go_enter Tryz.func25,Tryz.ntmps25
 go_wp2
 exact bodyPost_ret (v:=.agg #[.int .i64 16,.bool true]) (by simp[results,Tryz.results25,go_sem]) rfl ⟨rfl,(by repeat (first|exact (Below.refl _ _)|refine Below.setCell ?_ (by first|exact Nat.le_refl _|(simp;done)|omega|(simp;omega)) _|refine Below.alloc ?_ (by first|(simp;done)|omega|(simp;omega)) _))⟩
theorem truth_any (c:Bool)(w:World):Calls Tryz.prog 87 #[.bool c] w fun e w'=>e=.returned (.agg #[.int .u64 (if c=true then 1 else 0),.int .i64 16,.bool true])∧Below w.heap.size w w':=by
 have HB:=zH (Box.new w #[.int .u64 0,.int .i64 0,.bool false] 79)
 have KA:=zH (qaa w (.cells #[.int .u64 0,.int .i64 0,.bool false] 79))
 cases c
 all_goals
  go_enter Tryz.func87,Tryz.ntmps87
  go_wp2_with fail
  refine (ci16_any _).mono ?_
  rintro e w1 ⟨rfl,k1⟩
  have B1:=zH ((uI HB).step k1)
  have K1:=zH (bT (uI KA) k1)
  obtain⟨z0,z1,z2⟩:=(uI B1).at3
  have zf:=(uI B1).2.2
  have hs1:=(uI B1).1
  clear HB KA k1
  go_wp2_with fail
 ·have P:=(uI B1).three (.int .u64 0) (.int .i64 16) (.bool true)
  obtain⟨p0,p1,p2⟩:=P.at3
  exact bodyPost_ret (v:=.agg #[.int .u64 0,.int .i64 16,.bool true]) (by simp[results,Tryz.results87,go_sem,p0,p1,p2]) rfl ⟨rfl,qbs (uI K1) (Nat.le_refl _) _ _ _⟩
 ·have P:=(uI B1).three (.int .u64 1) (.int .i64 16) (.bool true)
  obtain⟨p0,p1,p2⟩:=P.at3
  exact bodyPost_ret (v:=.agg #[.int .u64 1,.int .i64 16,.bool true]) (by simp[results,Tryz.results87,go_sem,p0,p1,p2]) rfl ⟨rfl,qbs (uI K1) (Nat.le_refl _) _ _ _⟩
structure Tw (w W:World)(a b r:List Value):Prop where
 d:Below w.heap.size w W
 A:Box W w.heap.size a
 B:Box W (w.heap.size+1) b
 R:Box W (w.heap.size+1+1) r
theorem Tw.next {w W W':World}{a b r:List Value}(h:Tw w W a b r)(q:Below W.heap.size W W'):Tw w W' a b r:=⟨bT h.d q,h.A.step q,h.B.step q,h.R.step q⟩
theorem Tw.begin (w:World)(a b r:Array Value)(S T U':TypeId):Tw w (((w.alloc (.cells a S)).alloc (.cells b T)).alloc (.cells r U')) a.toList b.toList r.toList:=by
 have k1:=qaa w (.cells a S)
 have k2:=qaa (w.alloc (.cells a S)) (.cells b T)
 have k3:=qaa ((w.alloc (.cells a S)).alloc (.cells b T)) (.cells r U')
 have e1:(w.alloc (.cells a S)).heap.size=w.heap.size+1:=by simp
 have e2:((w.alloc (.cells a S)).alloc (.cells b T)).heap.size=w.heap.size+1+1:=by simp
 refine⟨bT (bT k1 k2) k3,((Box.new w a S).step k2).step k3,?_,?_⟩
 ·have:=(Box.new (w.alloc (.cells a S)) b T).step k3
  rwa [e1] at this
 ·have:=Box.new ((w.alloc (.cells a S)).alloc (.cells b T)) r U'
  rwa [e2] at this
theorem Tw.put {w W:World}{a b:List Value}{x y z:Value}(h:Tw w W a b [x,y,z])(u v t:Value):Tw w (((W.setCell ⟨w.heap.size+1+1,0,none⟩ u).setCell ⟨w.heap.size+1+1,1,none⟩ v).setCell ⟨w.heap.size+1+1,2,none⟩ t) a b [u,v,t] :=
 ⟨qbs h.d (by omega) _ _ _,((h.A.other (b':=w.heap.size+1+1) (by omega)).other (b':=w.heap.size+1+1) (by omega)).other (b':=w.heap.size+1+1) (by omega),((h.B.other (b':=w.heap.size+1+1) (by omega)).other (b':=w.heap.size+1+1) (by omega)).other (b':=w.heap.size+1+1) (by omega),h.R.three u v t⟩
theorem wtwo_ok (k n1 y1 n2 y2 V RB:Int)(s1 s2 RS:Bool)(h5:(k==25)=false)(h6:(k==26)=false)
  (HB:∀ w:World,Calls Tryz.prog 88 #[.int .i64 k,.int .u64 n1,.int .u64 n2,.agg #[.int .i64 y1,.bool s1],.agg #[.int .i64 y2,.bool s2]] w fun e w'=>e=.returned (.tuple #[.int .u64 V,.int .i64 0])∧Below w.heap.size w w')
  (HR:∀ w:World,Calls Tryz.prog 89 #[.int .i64 k,.agg #[.int .i64 y1,.bool s1],.agg #[.int .i64 y2,.bool s2]] w fun e w'=>e=.returned (.agg #[.int .i64 RB,.bool RS])∧Below w.heap.size w w') (w:World) :
  Calls Tryz.prog 50 #[.int .i64 k,.agg #[.int .u64 n1,.int .i64 y1,.bool s1],.agg #[.int .u64 n2,.int .i64 y2,.bool s2]] w fun e w'=>e=.returned (.tuple #[.agg #[.int .u64 V,.int .i64 RB,.bool RS],.int .i64 0])∧Below w.heap.size w w':=by
 have HB:=zH HB
 have HR:=zH HR
 have S0:=zH (Tw.begin w #[.int .u64 n1,.int .i64 y1,.bool s1] #[.int .u64 n2,.int .i64 y2,.bool s2] #[.int .u64 0,.int .i64 0,.bool false] 79 79 79)
 obtain⟨a0,a1,a2⟩:=(uI S0).A.at3
 obtain⟨c0,c1,c2⟩:=(uI S0).B.at3
 have hsA:=(uI S0).A.1
 have hsB:=(uI S0).B.1
 generalize hW0:((w.alloc (.cells #[.int .u64 n1,.int .i64 y1,.bool s1] 79)).alloc (.cells #[.int .u64 n2,.int .i64 y2,.bool s2] 79)).alloc (.cells #[.int .u64 0,.int .i64 0,.bool false] 79)=W0 at *
 go_enter Tryz.func50,Tryz.ntmps50
 go_wp2_with fail
 refine (uI HB _).mono ?_
 rintro e w1 ⟨rfl,k1⟩
 have S1:=zH ((uI S0).next k1)
 clear k1 S0 a0 a1 a2 c0 c1 c2 hsA hsB HB
 obtain⟨a0,a1,a2⟩:=(uI S1).A.at3
 obtain⟨c0,c1,c2⟩:=(uI S1).B.at3
 have hsA:=(uI S1).A.1
 have hsB:=(uI S1).B.1
 go_wp2_with fail
 refine (uI HR _).mono ?_
 rintro e w2 ⟨rfl,k2⟩
 have SR:=zH ((uI S1).next k2)
 clear k2 S1 a0 a1 a2 c0 c1 c2 hsA hsB HR
 obtain⟨z0,z1,z2⟩:=(uI SR).R.at3
 have zf:=(uI SR).R.2.2
 have zl:=(uI SR).R.1
 go_wp2_with fail
 obtain⟨p0,p1,p2⟩:=((uI SR).R.three (.int .u64 V) (.int .i64 RB) (.bool RS)).at3
 exact bodyPost_ret (v:=.tuple #[.agg #[.int .u64 V,.int .i64 RB,.bool RS],.int .i64 0]) (by simp[results,Tryz.results50,go_sem,p0,p1,p2]) rfl ⟨rfl,qbs (uI SR).d (by omega) _ _ _⟩
theorem wtwo_bad (k n1 y1 n2 y2 V E:Int)(s1 s2:Bool)(h5:(k==25)=false)(h6:(k==26)=false)(hE:E≠0)
  (HB:∀ w:World,Calls Tryz.prog 88 #[.int .i64 k,.int .u64 n1,.int .u64 n2,.agg #[.int .i64 y1,.bool s1],.agg #[.int .i64 y2,.bool s2]] w fun e w'=>e=.returned (.tuple #[.int .u64 V,.int .i64 E])∧Below w.heap.size w w') (w:World) :
  Calls Tryz.prog 50 #[.int .i64 k,.agg #[.int .u64 n1,.int .i64 y1,.bool s1],.agg #[.int .u64 n2,.int .i64 y2,.bool s2]] w fun e w'=>e=.returned (.tuple #[.agg #[.int .u64 0,.int .i64 0,.bool false],.int .i64 E])∧Below w.heap.size w w':=by
 have HB:=zH HB
 have hE1:(E != 0)=true:=bne_iff_ne.2 hE
 have hE2:(E==0)=false:=zBq hE
 clear hE
 have S0:=zH (Tw.begin w #[.int .u64 n1,.int .i64 y1,.bool s1] #[.int .u64 n2,.int .i64 y2,.bool s2] #[.int .u64 0,.int .i64 0,.bool false] 79 79 79)
 obtain⟨a0,a1,a2⟩:=(uI S0).A.at3
 obtain⟨c0,c1,c2⟩:=(uI S0).B.at3
 have hsA:=(uI S0).A.1
 have hsB:=(uI S0).B.1
 generalize hW0:((w.alloc (.cells #[.int .u64 n1,.int .i64 y1,.bool s1] 79)).alloc (.cells #[.int .u64 n2,.int .i64 y2,.bool s2] 79)).alloc (.cells #[.int .u64 0,.int .i64 0,.bool false] 79)=W0 at *
 go_enter Tryz.func50,Tryz.ntmps50
 go_wp2_with fail
 refine (uI HB _).mono ?_
 rintro e w1 ⟨rfl,k1⟩
 have SR:=zH ((uI S0).next k1)
 clear k1 S0 a0 a1 a2 c0 c1 c2 hsA hsB HB
 obtain⟨z0,z1,z2⟩:=(uI SR).R.at3
 have zf:=(uI SR).R.2.2
 have zl:=(uI SR).R.1
 go_wp2_with fail
 obtain⟨p0,p1,p2⟩:=((uI SR).R.three (.int .u64 0) (.int .i64 0) (.bool false)).at3
 exact bodyPost_ret (v:=.tuple #[.agg #[.int .u64 0,.int .i64 0,.bool false],.int .i64 E]) (by simp[results,Tryz.results50,go_sem,p0,p1,p2]) rfl ⟨rfl,qbs (uI SR).d (by omega) _ _ _⟩
theorem wtwo_land (n1 y1 n2 y2:Int)(s1 s2 c d:Bool)(h1:(n1 != 0)=c)(h2:(n2 != 0)=d)(w:World) :
  Calls Tryz.prog 50 #[.int .i64 25,.agg #[.int .u64 n1,.int .i64 y1,.bool s1],.agg #[.int .u64 n2,.int .i64 y2,.bool s2]] w fun e w'=>e=.returned (.tuple #[.agg #[.int .u64 (if (c&&d)=true then 1 else 0),.int .i64 16,.bool true],.int .i64 0])∧Below w.heap.size w w':=by
 have h1':(n1==0)=!c:=by rw[← h1,bne,Bool.not_not]
 have h2':(n2==0)=!d:=by rw[← h2,bne,Bool.not_not]
 have TT:=zH truth_any
 cases c <;> cases d
 all_goals
  have S0:=zH (Tw.begin w #[.int .u64 n1,.int .i64 y1,.bool s1] #[.int .u64 n2,.int .i64 y2,.bool s2] #[.int .u64 0,.int .i64 0,.bool false] 79 79 79)
  obtain⟨a0,a1,a2⟩:=(uI S0).A.at3
  obtain⟨c0,c1,c2⟩:=(uI S0).B.at3
  have hsA:=(uI S0).A.1
  have hsB:=(uI S0).B.1
  generalize hW0:((w.alloc (.cells #[.int .u64 n1,.int .i64 y1,.bool s1] 79)).alloc (.cells #[.int .u64 n2,.int .i64 y2,.bool s2] 79)).alloc (.cells #[.int .u64 0,.int .i64 0,.bool false] 79)=W0 at *
  go_enter Tryz.func50,Tryz.ntmps50
  go_wp2_with fail
  refine (uI TT _ _).mono ?_
  rintro e w1 ⟨rfl,k1⟩
  have SR:=zH ((uI S0).next k1)
  clear k1 S0 a0 a1 a2 c0 c1 c2 hsA hsB TT
  obtain⟨z0,z1,z2⟩:=(uI SR).R.at3
  have zf:=(uI SR).R.2.2
  have zl:=(uI SR).R.1
  go_wp2_with fail
 all_goals first
  | (obtain⟨p0,p1,p2⟩:=((uI SR).R.three (.int .u64 0) (.int .i64 16) (.bool true)).at3;exact bodyPost_ret (v:=.tuple #[.agg #[.int .u64 0,.int .i64 16,.bool true],.int .i64 0]) (by simp[results,Tryz.results50,go_sem,p0,p1,p2]) rfl ⟨rfl,qbs (uI SR).d (by omega) _ _ _⟩)
  | (obtain⟨p0,p1,p2⟩:=((uI SR).R.three (.int .u64 1) (.int .i64 16) (.bool true)).at3;exact bodyPost_ret (v:=.tuple #[.agg #[.int .u64 1,.int .i64 16,.bool true],.int .i64 0]) (by simp[results,Tryz.results50,go_sem,p0,p1,p2]) rfl ⟨rfl,qbs (uI SR).d (by omega) _ _ _⟩)
theorem wtwo_lor (n1 y1 n2 y2:Int)(s1 s2 c d:Bool)(h1:(n1 != 0)=c)(h2:(n2 != 0)=d)(w:World) :
  Calls Tryz.prog 50 #[.int .i64 26,.agg #[.int .u64 n1,.int .i64 y1,.bool s1],.agg #[.int .u64 n2,.int .i64 y2,.bool s2]] w fun e w'=>e=.returned (.tuple #[.agg #[.int .u64 (if (c || d)=true then 1 else 0),.int .i64 16,.bool true],.int .i64 0])∧Below w.heap.size w w':=by
 have h1':(n1==0)=!c:=by rw[← h1,bne,Bool.not_not]
 have h2':(n2==0)=!d:=by rw[← h2,bne,Bool.not_not]
 have TT:=zH truth_any
 cases c <;> cases d
 all_goals
  have S0:=zH (Tw.begin w #[.int .u64 n1,.int .i64 y1,.bool s1] #[.int .u64 n2,.int .i64 y2,.bool s2] #[.int .u64 0,.int .i64 0,.bool false] 79 79 79)
  obtain⟨a0,a1,a2⟩:=(uI S0).A.at3
  obtain⟨c0,c1,c2⟩:=(uI S0).B.at3
  have hsA:=(uI S0).A.1
  have hsB:=(uI S0).B.1
  generalize hW0:((w.alloc (.cells #[.int .u64 n1,.int .i64 y1,.bool s1] 79)).alloc (.cells #[.int .u64 n2,.int .i64 y2,.bool s2] 79)).alloc (.cells #[.int .u64 0,.int .i64 0,.bool false] 79)=W0 at *
  go_enter Tryz.func50,Tryz.ntmps50
  go_wp2_with fail
  refine (uI TT _ _).mono ?_
  rintro e w1 ⟨rfl,k1⟩
  have SR:=zH ((uI S0).next k1)
  clear k1 S0 a0 a1 a2 c0 c1 c2 hsA hsB TT
  obtain⟨z0,z1,z2⟩:=(uI SR).R.at3
  have zf:=(uI SR).R.2.2
  have zl:=(uI SR).R.1
  go_wp2_with fail
 all_goals first
  | (obtain⟨p0,p1,p2⟩:=((uI SR).R.three (.int .u64 0) (.int .i64 16) (.bool true)).at3;exact bodyPost_ret (v:=.tuple #[.agg #[.int .u64 0,.int .i64 16,.bool true],.int .i64 0]) (by simp[results,Tryz.results50,go_sem,p0,p1,p2]) rfl ⟨rfl,qbs (uI SR).d (by omega) _ _ _⟩)
  | (obtain⟨p0,p1,p2⟩:=((uI SR).R.three (.int .u64 1) (.int .i64 16) (.bool true)).at3;exact bodyPost_ret (v:=.tuple #[.agg #[.int .u64 1,.int .i64 16,.bool true],.int .i64 0]) (by simp[results,Tryz.results50,go_sem,p0,p1,p2]) rfl ⟨rfl,qbs (uI SR).d (by omega) _ _ _⟩)
theorem wone_un (k xn xb n1 y1 V B:Int)(xs s1 S:Bool)(nm:ByteArray)(ka:Option Addr)(kl kc:Nat)(h5:(k==5)=false)
  (HU:∀ w:World,Calls Tryz.prog 86 #[.int .i64 k,.int .u64 n1,.agg #[.int .i64 y1,.bool s1]] w fun e w'=>e=.returned (.tuple #[.int .u64 V,.agg #[.int .i64 B,.bool S],.int .i64 0])∧Below w.heap.size w w') (w:World) :
  Calls Tryz.prog 49 #[.agg #[.int .i64 k,.int .u64 xn,.int .i64 xb,.bool xs,.string nm,.slice ka kl kc],.agg #[.int .u64 n1,.int .i64 y1,.bool s1]] w fun e w'=>e=.returned (.tuple #[.agg #[.int .u64 V,.int .i64 B,.bool S],.int .i64 0])∧Below w.heap.size w w':=by
 have HU:=zH HU
 have S0:=zH (Tw.begin w #[.int .i64 k,.int .u64 xn,.int .i64 xb,.bool xs,.string nm,.slice ka kl kc] #[.int .u64 n1,.int .i64 y1,.bool s1] #[.int .u64 0,.int .i64 0,.bool false] 57 79 79)
 have a0:=(uI S0).A.2.1 0 _ rfl
 have a2:=(uI S0).A.2.1 2 _ rfl
 have a3:=(uI S0).A.2.1 3 _ rfl
 obtain⟨c0,c1,c2⟩:=(uI S0).B.at3
 have hsA:=(uI S0).A.1
 have hsB:=(uI S0).B.1
 generalize hW0:((w.alloc (.cells #[.int .i64 k,.int .u64 xn,.int .i64 xb,.bool xs,.string nm,.slice ka kl kc] 57)).alloc (.cells #[.int .u64 n1,.int .i64 y1,.bool s1] 79)).alloc (.cells #[.int .u64 0,.int .i64 0,.bool false] 79)=W0 at *
 go_enter Tryz.func49,Tryz.ntmps49
 go_wp2_with fail
 refine (uI HU _).mono ?_
 rintro e w1 ⟨rfl,k1⟩
 have S1:=zH ((uI S0).next k1)
 have ka1:=qaa w1 (.cells #[.int .i64 B,.bool S] 34)
 have SR:=zH ((uI S1).next ka1)
 clear k1 S0 a0 a2 a3 c0 c1 c2 hsA hsB HU ka1
 obtain⟨z0,z1,z2⟩:=(uI SR).R.at3
 have zf:=(uI SR).R.2.2
 have zl:=(uI SR).R.1
 go_wp2_with fail
 obtain⟨p0,p1,p2⟩:=((uI SR).R.three (.int .u64 V) (.int .i64 B) (.bool S)).at3
 exact bodyPost_ret (v:=.tuple #[.agg #[.int .u64 V,.int .i64 B,.bool S],.int .i64 0]) (by simp[results,Tryz.results49,go_sem,p0,p1,p2]) rfl ⟨rfl,qbs (uI SR).d (by omega) _ _ _⟩
theorem wone_cast (xn xb n1 y1 V:Int)(xs s1:Bool)(nm:ByteArray)(ka:Option Addr)(kl kc:Nat)
  (HC:∀ w:World,Calls Tryz.prog 85 #[.int .u64 n1,.agg #[.int .i64 y1,.bool s1],.agg #[.int .i64 xb,.bool xs]] w fun e w'=>e=.returned (.int .u64 V)∧Below w.heap.size w w') (w:World) :
  Calls Tryz.prog 49 #[.agg #[.int .i64 5,.int .u64 xn,.int .i64 xb,.bool xs,.string nm,.slice ka kl kc],.agg #[.int .u64 n1,.int .i64 y1,.bool s1]] w fun e w'=>e=.returned (.tuple #[.agg #[.int .u64 V,.int .i64 xb,.bool xs],.int .i64 0])∧Below w.heap.size w w':=by
 have HC:=zH HC
 obtain⟨k,hk⟩:∃ k:Int,k=5:=⟨5,rfl⟩
 rw[← hk]
 have S0:=zH (Tw.begin w #[.int .i64 k,.int .u64 xn,.int .i64 xb,.bool xs,.string nm,.slice ka kl kc] #[.int .u64 n1,.int .i64 y1,.bool s1] #[.int .u64 0,.int .i64 0,.bool false] 57 79 79)
 have a0:=(uI S0).A.2.1 0 _ rfl
 have a2:=(uI S0).A.2.1 2 _ rfl
 have a3:=(uI S0).A.2.1 3 _ rfl
 obtain⟨c0,c1,c2⟩:=(uI S0).B.at3
 have hsA:=(uI S0).A.1
 have hsB:=(uI S0).B.1
 generalize hW0:((w.alloc (.cells #[.int .i64 k,.int .u64 xn,.int .i64 xb,.bool xs,.string nm,.slice ka kl kc] 57)).alloc (.cells #[.int .u64 n1,.int .i64 y1,.bool s1] 79)).alloc (.cells #[.int .u64 0,.int .i64 0,.bool false] 79)=W0 at *
 rw[hk] at a0
 subst hk
 go_enter Tryz.func49,Tryz.ntmps49
 go_wp2_with fail
 refine zU (fun W=>W.cell? ⟨w.heap.size,2,none⟩=some (.int .i64 xb)∧W.cell? ⟨w.heap.size,3,none⟩=some (.bool xs)∧W.cell? ⟨w.heap.size+1,0,none⟩=some (.int .u64 n1)∧W.cell? ⟨w.heap.size+1,1,none⟩=some (.int .i64 y1)∧W.cell? ⟨w.heap.size+1,2,none⟩=some (.bool s1)) (by kernel_rfl) ?_
 have S1:=zH ((uI S0).next (Below.refl _ _).drew)
 clear S0 a0 a2 a3 c0 c1 c2
 generalize W0.drew=W1 at *
 have CL:=zH (fun (W:World) (r:List Value) (s:Tw w W [.int .i64 5,.int .u64 xn,.int .i64 xb,.bool xs,.string nm,.slice ka kl kc] [.int .u64 n1,.int .i64 y1,.bool s1] r)=>(⟨s.A.2.1 2 _ rfl,s.A.2.1 3 _ rfl,s.B.2.1 0 _ rfl,s.B.2.1 1 _ rfl,s.B.2.1 2 _ rfl⟩:W.cell? ⟨w.heap.size,2,none⟩=some (.int .i64 xb)∧W.cell? ⟨w.heap.size,3,none⟩=some (.bool xs)∧W.cell? ⟨w.heap.size+1,0,none⟩=some (.int .u64 n1)∧W.cell? ⟨w.heap.size+1,1,none⟩=some (.int .i64 y1)∧W.cell? ⟨w.heap.size+1,2,none⟩=some (.bool s1)))
 refine qR 0 6 6 ?_
 simp only[zTD]
 repeat (refine zS (fun K hK=>?_);go_simp;first|(refine zQ ?_ (fun W hW=>?_) (hK _ ?_);rotate_left;(obtain⟨d0,d1,d2,d3,d4⟩:=hW;go_simp;first|done|rfl);clear hK K)|(refine hK _ ?_;clear hK K))
 refine zO ?_
 refine qR 7 2 4 ?_
 simp only[zTD]
 repeat (refine zS (fun K hK=>?_);go_simp;first|(refine zQ ?_ (fun W hW=>?_) (hK _ ?_);rotate_left;(obtain⟨d0,d1,d2,d3,d4⟩:=hW;go_simp;first|done|rfl);clear hK K)|(refine hK _ ?_;clear hK K))
 refine zO ?_
 refine qO 6 3 (uI CL _ _ (uI S1)) ?_
 simp only[zTD]
 go_wp2_with fail
 refine (uI HC _).mono ?_
 rintro e w2 ⟨rfl,k2⟩
 have SR:=zH ((uI S1).next k2)
 clear k2 S1 HC
 obtain⟨z0,z1,z2⟩:=(uI SR).R.at3
 have zf:=(uI SR).R.2.2
 have zl:=(uI SR).R.1
 go_wp2_with fail
 first|refine zN ?_|refine zG ?_
 refine qR 9 1 2 ?_
 simp only[zTD]
 repeat (refine zS (fun K hK=>?_);go_simp;first|(refine zQ ?_ (fun W hW=>?_) (hK _ ?_);rotate_left;(obtain⟨d0,d1,d2,d3,d4⟩:=hW;go_simp;first|done|rfl);clear hK K)|(refine hK _ ?_;clear hK K))
 refine zO ?_
 refine qO 10 1 (uI CL _ _ (uI SR)) ?_
 simp only[zTD]
 go_wp2_with fail
 first|refine zN ?_|refine zG ?_
 have SP:=zH ((uI SR).put (.int .u64 V) (.int .i64 xb) (.bool xs))
 obtain⟨p0,p1,p2⟩:=(uI SP).R.at3
 refine qO 11 0 (uI CL _ _ (uI SP)) ?_
 simp only[zTD]
 go_wp2_with fail
 first|refine zN ?_|refine zG ?_
 refine zE (by kernel_rfl) (uI CL _ _ (uI SP)) ?_
 go_wp2_with fail
 exact bodyPost_ret (v:=.tuple #[.agg #[.int .u64 V,.int .i64 xb,.bool xs],.int .i64 0]) (by simp[results,Tryz.results49,go_sem,p0,p1,p2]) rfl ⟨rfl,(uI SP).d⟩
def WkC (x:Ex)(V b:Int)(s:Bool)(er:Int):Prop:=∀ (B:Nat) (kv:Value) (w:World),ExL B w kv x.kids→B≤w.heap.size →
 Calls Tryz.prog 28 #[.agg #[.int .i64 x.k,.int .u64 x.n,.int .i64 x.b,.bool x.s,.string x.nm,kv]] w fun e w'=>e=.returned (.tuple #[.agg #[.int .u64 V,.int .i64 b,.bool s],.int .i64 er])∧Below w.heap.size w w'
structure Tv (w W:World)(B:Nat)(x:Ex)(ka:Option Addr)(kc:Nat)(r:List Value):Prop where
 d:Below w.heap.size w W
 A:Box W w.heap.size [.int .i64 x.k,.int .u64 x.n,.int .i64 x.b,.bool x.s,.string x.nm,.slice ka x.kids.length kc]
 R:Box W (w.heap.size+1) r
 hk:ExL B W (.slice ka x.kids.length kc) x.kids
 le:B≤W.heap.size
theorem Tv.next {w W W':World}{B:Nat}{x:Ex}{ka:Option Addr}{kc:Nat}{r:List Value}(h:Tv w W B x ka kc r)(q:Below W.heap.size W W'):Tv w W' B x ka kc r :=
 ⟨bT h.d q,h.A.step q,h.R.step q,h.hk.step (q.mono h.le),Nat.le_trans h.le q.size⟩
theorem Tv.begin {w:World}{B:Nat}{x:Ex}{ka:Option Addr}{kc:Nat}(r:Array Value)(T U':TypeId)(hk:ExL B w (.slice ka x.kids.length kc) x.kids)(hB:B≤w.heap.size):Tv w ((w.alloc (.cells #[.int .i64 x.k,.int .u64 x.n,.int .i64 x.b,.bool x.s,.string x.nm,.slice ka x.kids.length kc] T)).alloc (.cells r U')) B x ka kc r.toList:=by
 have k1:=qaa w (.cells #[.int .i64 x.k,.int .u64 x.n,.int .i64 x.b,.bool x.s,.string x.nm,.slice ka x.kids.length kc] T)
 have k2:=qaa (w.alloc (.cells #[.int .i64 x.k,.int .u64 x.n,.int .i64 x.b,.bool x.s,.string x.nm,.slice ka x.kids.length kc] T)) (.cells r U')
 have e1:(w.alloc (.cells #[.int .i64 x.k,.int .u64 x.n,.int .i64 x.b,.bool x.s,.string x.nm,.slice ka x.kids.length kc] T)).heap.size=w.heap.size+1:=by simp
 have hd:=bT k1 k2
 refine⟨hd,(Box.new w _ T).step k2,?_,hk.step (hd.mono hB),Nat.le_trans hB hd.size⟩
 have:=Box.new (w.alloc (.cells #[.int .i64 x.k,.int .u64 x.n,.int .i64 x.b,.bool x.s,.string x.nm,.slice ka x.kids.length kc] T)) r U'
 rwa [e1] at this
theorem qa4 {w W:World}{B:Nat}{x:Ex}{ka:Option Addr}{kc:Nat}{r:List Value}(s:Tv w W B x ka kc r)(i:Nat)(hi:i<x.kids.length):∃ b off kv,ka=some ⟨b,off,none⟩∧b<W.heap.size∧ExL B W kv x.kids[i].kids ∧
  W.cell? ⟨b,off+i*6,none⟩=some (.int .i64 x.kids[i].k)∧W.cell? ⟨b,off+i*6+1,none⟩=some (.int .u64 x.kids[i].n)∧W.cell? ⟨b,off+i*6+2,none⟩=some (.int .i64 x.kids[i].b)∧W.cell? ⟨b,off+i*6+3,none⟩=some (.bool x.kids[i].s)∧W.cell? ⟨b,off+i*6+4,none⟩=some (.string x.kids[i].nm)∧W.cell? ⟨b,off+i*6+5,none⟩=some kv:=by
 obtain⟨ao,cap,e,-,h⟩:=s.hk.at
 injection e with e1 _ _
 obtain⟨b,off,e2,hb,hbw,hc⟩:=h (fun e=>by rw[e] at hi;exact absurd hi (by simp))
 obtain⟨kv,h1,-,h3⟩:=hc i hi
 exact⟨b,off,kv,e1.trans e2,hbw,h1,h3⟩
theorem Box.six8 {w:World}{b:Nat}{a0 a1 a2 a3 a4 a5:Value}(h:Box w b [a0,a1,a2,a3,a4,a5]):w.cell? ⟨b,0,none⟩=some a0∧w.cell? ⟨b,1,none⟩=some a1∧w.cell? ⟨b,2,none⟩=some a2∧w.cell? ⟨b,3,none⟩=some a3∧w.cell? ⟨b,4,none⟩=some a4∧w.cell? ⟨b,5,none⟩=some a5 :=
 ⟨h.2.1 0 _ rfl,h.2.1 1 _ rfl,h.2.1 2 _ rfl,h.2.1 3 _ rfl,h.2.1 4 _ rfl,h.2.1 5 _ rfl⟩
theorem wk_num (x:Ex)(hk:x.k=1):WkC x x.n x.b x.s 0:=by
 intro B kv w hx hB
 obtain⟨ka,kc,rfl⟩:∃ ao cap,kv=.slice ao x.kids.length cap:=by obtain⟨ao,cap,e,-⟩:=hx.at;exact⟨ao,cap,e⟩
 have S0:=zH (Tv.begin #[.int .u64 0,.int .i64 0,.bool false] 57 79 hx hB)
 obtain⟨a0,a1,a2,a3,a4,a5⟩:=(uI S0).A.six8
 have e1:(x.k==1)=true:=beq_iff_eq.2 hk
 have hsA:=(uI S0).A.1
 obtain⟨z0,z1,z2⟩:=(uI S0).R.at3
 have zf:=(uI S0).R.2.2
 have zl:=(uI S0).R.1
 clear hx hB
 generalize hW0:(w.alloc (.cells #[.int .i64 x.k,.int .u64 x.n,.int .i64 x.b,.bool x.s,.string x.nm,.slice ka x.kids.length kc] 57)).alloc (.cells #[.int .u64 0,.int .i64 0,.bool false] 79)=W0 at *
 go_enter Tryz.func28,Tryz.ntmps28
 go_wp2_with fail
 exact bodyPost_ret (v:=.tuple #[.agg #[.int .u64 x.n,.int .i64 x.b,.bool x.s],.int .i64 0]) (by simp[results,Tryz.results28,go_sem]) rfl ⟨rfl,(by repeat (first|exact (Below.refl _ _)|refine Below.setCell ?_ (by first|exact Nat.le_refl _|(simp;done)|omega|(simp;omega)) _|refine Below.alloc ?_ (by first|(simp;done)|omega|(simp;omega)) _))⟩
theorem wk_no (x:Ex)(hk:x.k=2∨x.k=3∨x.k=4):WkC x 0 0 false 8:=by
 rcases hk with hk|hk|hk
 ·intro B kv w hx hB
  obtain⟨ka,kc,rfl⟩:∃ ao cap,kv=.slice ao x.kids.length cap:=by obtain⟨ao,cap,e,-⟩:=hx.at;exact⟨ao,cap,e⟩
  have S0:=zH (Tv.begin #[.int .u64 0,.int .i64 0,.bool false] 57 79 hx hB)
  obtain⟨a0,a1,a2,a3,a4,a5⟩:=(uI S0).A.six8
  have e1:(x.k==1)=false:=zBq (by omega)
  have e2:(x.k==2)=true:=beq_iff_eq.2 hk
  have hsA:=(uI S0).A.1
  obtain⟨z0,z1,z2⟩:=(uI S0).R.at3
  have zf:=(uI S0).R.2.2
  have zl:=(uI S0).R.1
  clear hx hB
  generalize hW0:(w.alloc (.cells #[.int .i64 x.k,.int .u64 x.n,.int .i64 x.b,.bool x.s,.string x.nm,.slice ka x.kids.length kc] 57)).alloc (.cells #[.int .u64 0,.int .i64 0,.bool false] 79)=W0 at *
  go_enter Tryz.func28,Tryz.ntmps28
  go_wp2_with fail
  exact bodyPost_ret (v:=.tuple #[.agg #[.int .u64 0,.int .i64 0,.bool false],.int .i64 8]) (by simp[results,Tryz.results28,go_sem]) rfl ⟨rfl,(by repeat (first|exact (Below.refl _ _)|refine Below.setCell ?_ (by first|exact Nat.le_refl _|(simp;done)|omega|(simp;omega)) _|refine Below.alloc ?_ (by first|(simp;done)|omega|(simp;omega)) _))⟩
 ·intro B kv w hx hB
  obtain⟨ka,kc,rfl⟩:∃ ao cap,kv=.slice ao x.kids.length cap:=by obtain⟨ao,cap,e,-⟩:=hx.at;exact⟨ao,cap,e⟩
  have S0:=zH (Tv.begin #[.int .u64 0,.int .i64 0,.bool false] 57 79 hx hB)
  obtain⟨a0,a1,a2,a3,a4,a5⟩:=(uI S0).A.six8
  have e1:(x.k==1)=false:=zBq (by omega)
  have e2:(x.k==2)=false:=zBq (by omega)
  have e3:(x.k==3)=true:=beq_iff_eq.2 hk
  have hsA:=(uI S0).A.1
  obtain⟨z0,z1,z2⟩:=(uI S0).R.at3
  have zf:=(uI S0).R.2.2
  have zl:=(uI S0).R.1
  clear hx hB
  generalize hW0:(w.alloc (.cells #[.int .i64 x.k,.int .u64 x.n,.int .i64 x.b,.bool x.s,.string x.nm,.slice ka x.kids.length kc] 57)).alloc (.cells #[.int .u64 0,.int .i64 0,.bool false] 79)=W0 at *
  go_enter Tryz.func28,Tryz.ntmps28
  go_wp2_with fail
  exact bodyPost_ret (v:=.tuple #[.agg #[.int .u64 0,.int .i64 0,.bool false],.int .i64 8]) (by simp[results,Tryz.results28,go_sem]) rfl ⟨rfl,(by repeat (first|exact (Below.refl _ _)|refine Below.setCell ?_ (by first|exact Nat.le_refl _|(simp;done)|omega|(simp;omega)) _|refine Below.alloc ?_ (by first|(simp;done)|omega|(simp;omega)) _))⟩
 ·intro B kv w hx hB
  obtain⟨ka,kc,rfl⟩:∃ ao cap,kv=.slice ao x.kids.length cap:=by obtain⟨ao,cap,e,-⟩:=hx.at;exact⟨ao,cap,e⟩
  have S0:=zH (Tv.begin #[.int .u64 0,.int .i64 0,.bool false] 57 79 hx hB)
  obtain⟨a0,a1,a2,a3,a4,a5⟩:=(uI S0).A.six8
  have e1:(x.k==1)=false:=zBq (by omega)
  have e2:(x.k==2)=false:=zBq (by omega)
  have e3:(x.k==3)=false:=zBq (by omega)
  have e4:(x.k==4)=true:=beq_iff_eq.2 hk
  have hsA:=(uI S0).A.1
  obtain⟨z0,z1,z2⟩:=(uI S0).R.at3
  have zf:=(uI S0).R.2.2
  have zl:=(uI S0).R.1
  clear hx hB
  generalize hW0:(w.alloc (.cells #[.int .i64 x.k,.int .u64 x.n,.int .i64 x.b,.bool x.s,.string x.nm,.slice ka x.kids.length kc] 57)).alloc (.cells #[.int .u64 0,.int .i64 0,.bool false] 79)=W0 at *
  go_enter Tryz.func28,Tryz.ntmps28
  go_wp2_with fail
  exact bodyPost_ret (v:=.tuple #[.agg #[.int .u64 0,.int .i64 0,.bool false],.int .i64 8]) (by simp[results,Tryz.results28,go_sem]) rfl ⟨rfl,(by repeat (first|exact (Below.refl _ _)|refine Below.setCell ?_ (by first|exact Nat.le_refl _|(simp;done)|omega|(simp;omega)) _|refine Below.alloc ?_ (by first|(simp;done)|omega|(simp;omega)) _))⟩
theorem wk_bad0 (x x0:Ex)(rest:List Ex)(n1 y1 er:Int)(s1:Bool)(hk:5≤x.k)(hkids:x.kids=x0::rest)(IH0:WkC x0 n1 y1 s1 er)(hE:er≠0):WkC x 0 0 false er:=by
 intro B kv w hx hB
 obtain⟨ka,kc,rfl⟩:∃ ao cap,kv=.slice ao x.kids.length cap:=by obtain⟨ao,cap,e,-⟩:=hx.at;exact⟨ao,cap,e⟩
 have S0:=zH (Tv.begin #[.int .u64 0,.int .i64 0,.bool false] 57 79 hx hB)
 have hl:1≤x.kids.length:=by rw[hkids];simp
 obtain⟨bk,off,kv0,rfl,hbk,hky,c0,c1,c2,c3,c4,c5⟩:=qa4 (uI S0) 0 (by omega)
 have ey0:x.kids[0]'(by omega)=x0:=by simp[hkids]
 rw[ey0] at hky c0 c1 c2 c3 c4
 simp only[Nat.zero_mul,Nat.add_zero] at c0 c1 c2 c3 c4 c5
 have CA:=zH (IH0 _ _ _ hky (uI S0).le)
 obtain⟨a0,a1,a2,a3,a4,a5⟩:=(uI S0).A.six8
 have e1:(x.k==1)=false:=zBq (by omega)
 have e2:(x.k==2)=false:=zBq (by omega)
 have e3:(x.k==3)=false:=zBq (by omega)
 have e4:(x.k==4)=false:=zBq (by omega)
 have hE1:(er != 0)=true:=bne_iff_ne.2 hE
 have hE2:(er==0)=false:=zBq hE
 have hl1:(1:Int)≤(x.kids.length:Int):=by omega
 have hl2:0<x.kids.length:=by omega
 clear hE IH0 ey0 hkids
 have hsA:=(uI S0).A.1
 obtain⟨z0,z1,z2⟩:=(uI S0).R.at3
 have zf:=(uI S0).R.2.2
 have zl:=(uI S0).R.1
 clear hx hB
 generalize hW0:(w.alloc (.cells #[.int .i64 x.k,.int .u64 x.n,.int .i64 x.b,.bool x.s,.string x.nm,.slice (some ⟨bk,off,none⟩) x.kids.length kc] 57)).alloc (.cells #[.int .u64 0,.int .i64 0,.bool false] 79)=W0 at *
 go_enter Tryz.func28,Tryz.ntmps28
 go_wp2_with fail
 refine (uI CA).mono ?_
 rintro e w1 ⟨rfl,k1⟩
 have S1:=zH ((uI S0).next k1)
 have kN:=qaa w1 (.cells #[.int .u64 n1,.int .i64 y1,.bool s1] 79)
 have BN:=zH (Box.new w1 #[.int .u64 n1,.int .i64 y1,.bool s1] 79)
 have S2:=zH ((uI S1).next kN)
 clear k1 S0 S1 CA c0 c1 c2 c3 c4 c5 a0 a1 a2 a3 a4 a5 hsA z0 z1 z2 zf zl kN hky hbk
 obtain⟨a0,a1,a2,a3,a4,a5⟩:=(uI S2).A.six8
 have hsA:=(uI S2).A.1
 obtain⟨z0,z1,z2⟩:=(uI S2).R.at3
 have zf:=(uI S2).R.2.2
 have zl:=(uI S2).R.1
 obtain⟨u0,u1,u2⟩:=(uI BN).at3
 have hsN:=(uI BN).1
 generalize hW2:w1.alloc (.cells #[.int .u64 n1,.int .i64 y1,.bool s1] 79)=W2 at *
 go_wp2_with fail
 obtain⟨p0,p1,p2⟩:=((uI S2).R.three (.int .u64 0) (.int .i64 0) (.bool false)).at3
 exact bodyPost_ret (v:=.tuple #[.agg #[.int .u64 0,.int .i64 0,.bool false],.int .i64 er]) (by simp[results,Tryz.results28,go_sem,p0,p1,p2]) rfl ⟨rfl,qbs (uI S2).d (by omega) _ _ _⟩
theorem wk_one (x x0:Ex)(n1 y1 V b:Int)(s1 s:Bool)(hk:5≤x.k)(hkids:x.kids=[x0])(IH0:WkC x0 n1 y1 s1 0)
  (H1:∀ (ka:Option Addr) (kl kc:Nat) (w:World),Calls Tryz.prog 49 #[.agg #[.int .i64 x.k,.int .u64 x.n,.int .i64 x.b,.bool x.s,.string x.nm,.slice ka kl kc],.agg #[.int .u64 n1,.int .i64 y1,.bool s1]] w fun e w'=>e=.returned (.tuple #[.agg #[.int .u64 V,.int .i64 b,.bool s],.int .i64 0])∧Below w.heap.size w w'):WkC x V b s 0:=by
 intro B kv w hx hB
 obtain⟨ka,kc,rfl⟩:∃ ao cap,kv=.slice ao x.kids.length cap:=by obtain⟨ao,cap,e,-⟩:=hx.at;exact⟨ao,cap,e⟩
 have S0:=zH (Tv.begin #[.int .u64 0,.int .i64 0,.bool false] 57 79 hx hB)
 have hl:1≤x.kids.length:=by rw[hkids];simp
 obtain⟨bk,off,kv0,rfl,hbk,hky,c0,c1,c2,c3,c4,c5⟩:=qa4 (uI S0) 0 (by omega)
 have ey0:x.kids[0]'(by omega)=x0:=by simp[hkids]
 rw[ey0] at hky c0 c1 c2 c3 c4
 simp only[Nat.zero_mul,Nat.add_zero] at c0 c1 c2 c3 c4 c5
 have CA:=zH (IH0 _ _ _ hky (uI S0).le)
 obtain⟨a0,a1,a2,a3,a4,a5⟩:=(uI S0).A.six8
 have e1:(x.k==1)=false:=zBq (by omega)
 have e2:(x.k==2)=false:=zBq (by omega)
 have e3:(x.k==3)=false:=zBq (by omega)
 have e4:(x.k==4)=false:=zBq (by omega)
 have hl1:(1:Int)≤(x.kids.length:Int):=by omega
 have hl2:0<x.kids.length:=by omega
 have hl3:((x.kids.length:Int)==1)=true:=by rw[hkids];rfl
 have hl4:(x.kids.length==1)=true:=by rw[hkids];rfl
 have H1:=zH H1
 clear IH0 ey0 hkids
 have hsA:=(uI S0).A.1
 obtain⟨z0,z1,z2⟩:=(uI S0).R.at3
 have zf:=(uI S0).R.2.2
 have zl:=(uI S0).R.1
 clear hx hB
 generalize hW0:(w.alloc (.cells #[.int .i64 x.k,.int .u64 x.n,.int .i64 x.b,.bool x.s,.string x.nm,.slice (some ⟨bk,off,none⟩) x.kids.length kc] 57)).alloc (.cells #[.int .u64 0,.int .i64 0,.bool false] 79)=W0 at *
 go_enter Tryz.func28,Tryz.ntmps28
 go_wp2_with fail
 refine (uI CA).mono ?_
 rintro e w1 ⟨rfl,k1⟩
 have S1:=zH ((uI S0).next k1)
 have kN:=qaa w1 (.cells #[.int .u64 n1,.int .i64 y1,.bool s1] 79)
 have BN:=zH (Box.new w1 #[.int .u64 n1,.int .i64 y1,.bool s1] 79)
 have S2:=zH ((uI S1).next kN)
 clear k1 S0 S1 CA c0 c1 c2 c3 c4 c5 a0 a1 a2 a3 a4 a5 hsA z0 z1 z2 zf zl kN hky hbk
 obtain⟨a0,a1,a2,a3,a4,a5⟩:=(uI S2).A.six8
 have hsA:=(uI S2).A.1
 obtain⟨z0,z1,z2⟩:=(uI S2).R.at3
 have zf:=(uI S2).R.2.2
 have zl:=(uI S2).R.1
 obtain⟨u0,u1,u2⟩:=(uI BN).at3
 have hsN:=(uI BN).1
 generalize hW2:w1.alloc (.cells #[.int .u64 n1,.int .i64 y1,.bool s1] 79)=W2 at *
 go_wp2_with fail
 refine (uI H1 _ _ _ _).mono ?_
 rintro e w3 ⟨rfl,k3⟩
 have S3:=zH ((uI S2).next k3)
 clear k3 S2 a0 a1 a2 a3 a4 a5 hsA z0 z1 z2 zf zl H1 u0 u1 u2 hsN BN
 obtain⟨z0,z1,z2⟩:=(uI S3).R.at3
 have zf:=(uI S3).R.2.2
 have zl:=(uI S3).R.1
 go_wp2_with fail
 obtain⟨p0,p1,p2⟩:=((uI S3).R.three (.int .u64 V) (.int .i64 b) (.bool s)).at3
 exact bodyPost_ret (v:=.tuple #[.agg #[.int .u64 V,.int .i64 b,.bool s],.int .i64 0]) (by simp[results,Tryz.results28,go_sem,p0,p1,p2]) rfl ⟨rfl,qbs (uI S3).d (by omega) _ _ _⟩
theorem wk_bad1 (x x0 x1:Ex)(n1 y1 n2 y2 er:Int)(s1 s2:Bool)(hk:5≤x.k)(hkids:x.kids=[x0,x1])(IH0:WkC x0 n1 y1 s1 0)(IH1:WkC x1 n2 y2 s2 er)(hE:er≠0):WkC x 0 0 false er:=by
 intro B kv w hx hB
 obtain⟨ka,kc,rfl⟩:∃ ao cap,kv=.slice ao x.kids.length cap:=by obtain⟨ao,cap,e,-⟩:=hx.at;exact⟨ao,cap,e⟩
 have S0:=zH (Tv.begin #[.int .u64 0,.int .i64 0,.bool false] 57 79 hx hB)
 have hl:1≤x.kids.length:=by rw[hkids];simp
 obtain⟨bk,off,kv0,rfl,hbk,hky,c0,c1,c2,c3,c4,c5⟩:=qa4 (uI S0) 0 (by omega)
 have ey0:x.kids[0]'(by omega)=x0:=by simp[hkids]
 rw[ey0] at hky c0 c1 c2 c3 c4
 simp only[Nat.zero_mul,Nat.add_zero] at c0 c1 c2 c3 c4 c5
 have CA:=zH (IH0 _ _ _ hky (uI S0).le)
 obtain⟨a0,a1,a2,a3,a4,a5⟩:=(uI S0).A.six8
 have e1:(x.k==1)=false:=zBq (by omega)
 have e2:(x.k==2)=false:=zBq (by omega)
 have e3:(x.k==3)=false:=zBq (by omega)
 have e4:(x.k==4)=false:=zBq (by omega)
 have hE1:(er != 0)=true:=bne_iff_ne.2 hE
 have hE2:(er==0)=false:=zBq hE
 clear hE
 have hl1:(1:Int)≤(x.kids.length:Int):=by omega
 have hl2:0<x.kids.length:=by omega
 have hl3:((x.kids.length:Int)==1)=false:=by rw[hkids];rfl
 have hl4:(x.kids.length==1)=false:=by rw[hkids];rfl
 have hl5:(2:Int)≤(x.kids.length:Int):=by rw[hkids];simp
 have hl6:1<x.kids.length:=by rw[hkids];simp
 have HKI:=zH hkids
 clear IH0 ey0 hkids
 have hsA:=(uI S0).A.1
 obtain⟨z0,z1,z2⟩:=(uI S0).R.at3
 have zf:=(uI S0).R.2.2
 have zl:=(uI S0).R.1
 clear hx hB
 generalize hW0:(w.alloc (.cells #[.int .i64 x.k,.int .u64 x.n,.int .i64 x.b,.bool x.s,.string x.nm,.slice (some ⟨bk,off,none⟩) x.kids.length kc] 57)).alloc (.cells #[.int .u64 0,.int .i64 0,.bool false] 79)=W0 at *
 go_enter Tryz.func28,Tryz.ntmps28
 go_wp2_with fail
 refine (uI CA).mono ?_
 rintro e w1 ⟨rfl,k1⟩
 have S1:=zH ((uI S0).next k1)
 have kN:=qaa w1 (.cells #[.int .u64 n1,.int .i64 y1,.bool s1] 79)
 have BN:=zH (Box.new w1 #[.int .u64 n1,.int .i64 y1,.bool s1] 79)
 have S2:=zH ((uI S1).next kN)
 clear k1 S0 S1 CA c0 c1 c2 c3 c4 c5 a0 a1 a2 a3 a4 a5 hsA z0 z1 z2 zf zl kN hky hbk
 obtain⟨a0,a1,a2,a3,a4,a5⟩:=(uI S2).A.six8
 have hsA:=(uI S2).A.1
 obtain⟨z0,z1,z2⟩:=(uI S2).R.at3
 have zf:=(uI S2).R.2.2
 have zl:=(uI S2).R.1
 obtain⟨u0,u1,u2⟩:=(uI BN).at3
 have hsN:=(uI BN).1
 generalize hW2:w1.alloc (.cells #[.int .u64 n1,.int .i64 y1,.bool s1] 79)=W2 at *
 obtain⟨bk1,off1,kv1,ek1,hbk1,hky1,d0,d1,d2,d3,d4,d5⟩:=qa4 (uI S2) 1 hl6
 have ey1:x.kids[1]'hl6=x1:=by simp[uI HKI]
 rw[ey1] at hky1 d0 d1 d2 d3 d4
 clear ey1
 injection ek1 with ek1
 injection ek1 with ek1 ek2
 subst ek1 ek2
 simp only[Nat.one_mul] at d0 d1 d2 d3 d4 d5
 have CB:=zH (IH1 _ _ _ hky1 (uI S2).le)
 clear IH1
 go_wp2_with fail
 refine (uI CB).mono ?_
 rintro e w3 ⟨rfl,k3⟩
 have S3:=zH ((uI S2).next k3)
 have kM:=qaa w3 (.cells #[.int .u64 n2,.int .i64 y2,.bool s2] 79)
 have BM:=zH (Box.new w3 #[.int .u64 n2,.int .i64 y2,.bool s2] 79)
 have BN4:=zH (((uI BN).step k3).step kM)
 have S4:=zH ((uI S3).next kM)
 clear k3 S2 S3 CB d0 d1 d2 d3 d4 d5 a0 a1 a2 a3 a4 a5 hsA z0 z1 z2 zf zl kM hky1 hbk1 u0 u1 u2 hsN BN
 obtain⟨a0,a1,a2,a3,a4,a5⟩:=(uI S4).A.six8
 have hsA:=(uI S4).A.1
 obtain⟨z0,z1,z2⟩:=(uI S4).R.at3
 have zf:=(uI S4).R.2.2
 have zl:=(uI S4).R.1
 obtain⟨u0,u1,u2⟩:=(uI BN4).at3
 have hsN:=(uI BN4).1
 obtain⟨v0,v1,v2⟩:=(uI BM).at3
 have hsM:=(uI BM).1
 generalize hW4:w3.alloc (.cells #[.int .u64 n2,.int .i64 y2,.bool s2] 79)=W4 at *
 go_wp2_with fail
 obtain⟨p0,p1,p2⟩:=((uI S4).R.three (.int .u64 0) (.int .i64 0) (.bool false)).at3
 exact bodyPost_ret (v:=.tuple #[.agg #[.int .u64 0,.int .i64 0,.bool false],.int .i64 er]) (by simp[results,Tryz.results28,go_sem,p0,p1,p2]) rfl ⟨rfl,qbs (uI S4).d (by omega) _ _ _⟩
theorem wk_two (x x0 x1:Ex)(n1 y1 n2 y2 V b er:Int)(s1 s2 s:Bool)(hk:5≤x.k)(hkids:x.kids=[x0,x1])(IH0:WkC x0 n1 y1 s1 0)(IH1:WkC x1 n2 y2 s2 0)
  (H2:∀ w:World,Calls Tryz.prog 50 #[.int .i64 x.k,.agg #[.int .u64 n1,.int .i64 y1,.bool s1],.agg #[.int .u64 n2,.int .i64 y2,.bool s2]] w fun e w'=>e=.returned (.tuple #[.agg #[.int .u64 V,.int .i64 b,.bool s],.int .i64 er])∧Below w.heap.size w w'):WkC x V b s er:=by
 intro B kv w hx hB
 obtain⟨ka,kc,rfl⟩:∃ ao cap,kv=.slice ao x.kids.length cap:=by obtain⟨ao,cap,e,-⟩:=hx.at;exact⟨ao,cap,e⟩
 have S0:=zH (Tv.begin #[.int .u64 0,.int .i64 0,.bool false] 57 79 hx hB)
 have hl:1≤x.kids.length:=by rw[hkids];simp
 obtain⟨bk,off,kv0,rfl,hbk,hky,c0,c1,c2,c3,c4,c5⟩:=qa4 (uI S0) 0 (by omega)
 have ey0:x.kids[0]'(by omega)=x0:=by simp[hkids]
 rw[ey0] at hky c0 c1 c2 c3 c4
 simp only[Nat.zero_mul,Nat.add_zero] at c0 c1 c2 c3 c4 c5
 have CA:=zH (IH0 _ _ _ hky (uI S0).le)
 obtain⟨a0,a1,a2,a3,a4,a5⟩:=(uI S0).A.six8
 have e1:(x.k==1)=false:=zBq (by omega)
 have e2:(x.k==2)=false:=zBq (by omega)
 have e3:(x.k==3)=false:=zBq (by omega)
 have e4:(x.k==4)=false:=zBq (by omega)
 have H2:=zH H2
 have hl1:(1:Int)≤(x.kids.length:Int):=by omega
 have hl2:0<x.kids.length:=by omega
 have hl3:((x.kids.length:Int)==1)=false:=by rw[hkids];rfl
 have hl4:(x.kids.length==1)=false:=by rw[hkids];rfl
 have hl5:(2:Int)≤(x.kids.length:Int):=by rw[hkids];simp
 have hl6:1<x.kids.length:=by rw[hkids];simp
 have HKI:=zH hkids
 clear IH0 ey0 hkids
 have hsA:=(uI S0).A.1
 obtain⟨z0,z1,z2⟩:=(uI S0).R.at3
 have zf:=(uI S0).R.2.2
 have zl:=(uI S0).R.1
 clear hx hB
 generalize hW0:(w.alloc (.cells #[.int .i64 x.k,.int .u64 x.n,.int .i64 x.b,.bool x.s,.string x.nm,.slice (some ⟨bk,off,none⟩) x.kids.length kc] 57)).alloc (.cells #[.int .u64 0,.int .i64 0,.bool false] 79)=W0 at *
 go_enter Tryz.func28,Tryz.ntmps28
 go_wp2_with fail
 refine (uI CA).mono ?_
 rintro e w1 ⟨rfl,k1⟩
 have S1:=zH ((uI S0).next k1)
 have kN:=qaa w1 (.cells #[.int .u64 n1,.int .i64 y1,.bool s1] 79)
 have BN:=zH (Box.new w1 #[.int .u64 n1,.int .i64 y1,.bool s1] 79)
 have S2:=zH ((uI S1).next kN)
 clear k1 S0 S1 CA c0 c1 c2 c3 c4 c5 a0 a1 a2 a3 a4 a5 hsA z0 z1 z2 zf zl kN hky hbk
 obtain⟨a0,a1,a2,a3,a4,a5⟩:=(uI S2).A.six8
 have hsA:=(uI S2).A.1
 obtain⟨z0,z1,z2⟩:=(uI S2).R.at3
 have zf:=(uI S2).R.2.2
 have zl:=(uI S2).R.1
 obtain⟨u0,u1,u2⟩:=(uI BN).at3
 have hsN:=(uI BN).1
 generalize hW2:w1.alloc (.cells #[.int .u64 n1,.int .i64 y1,.bool s1] 79)=W2 at *
 obtain⟨bk1,off1,kv1,ek1,hbk1,hky1,d0,d1,d2,d3,d4,d5⟩:=qa4 (uI S2) 1 hl6
 have ey1:x.kids[1]'hl6=x1:=by simp[uI HKI]
 rw[ey1] at hky1 d0 d1 d2 d3 d4
 clear ey1
 injection ek1 with ek1
 injection ek1 with ek1 ek2
 subst ek1 ek2
 simp only[Nat.one_mul] at d0 d1 d2 d3 d4 d5
 have CB:=zH (IH1 _ _ _ hky1 (uI S2).le)
 clear IH1
 go_wp2_with fail
 refine (uI CB).mono ?_
 rintro e w3 ⟨rfl,k3⟩
 have S3:=zH ((uI S2).next k3)
 have kM:=qaa w3 (.cells #[.int .u64 n2,.int .i64 y2,.bool s2] 79)
 have BM:=zH (Box.new w3 #[.int .u64 n2,.int .i64 y2,.bool s2] 79)
 have BN4:=zH (((uI BN).step k3).step kM)
 have S4:=zH ((uI S3).next kM)
 clear k3 S2 S3 CB d0 d1 d2 d3 d4 d5 a0 a1 a2 a3 a4 a5 hsA z0 z1 z2 zf zl kM hky1 hbk1 u0 u1 u2 hsN BN
 obtain⟨a0,a1,a2,a3,a4,a5⟩:=(uI S4).A.six8
 have hsA:=(uI S4).A.1
 obtain⟨z0,z1,z2⟩:=(uI S4).R.at3
 have zf:=(uI S4).R.2.2
 have zl:=(uI S4).R.1
 obtain⟨u0,u1,u2⟩:=(uI BN4).at3
 have hsN:=(uI BN4).1
 obtain⟨v0,v1,v2⟩:=(uI BM).at3
 have hsM:=(uI BM).1
 generalize hW4:w3.alloc (.cells #[.int .u64 n2,.int .i64 y2,.bool s2] 79)=W4 at *
 go_wp2_with fail
 refine (uI H2 _).mono ?_
 rintro e w5 ⟨rfl,k5⟩
 have S5:=zH ((uI S4).next k5)
 clear k5 S4 a0 a1 a2 a3 a4 a5 hsA z0 z1 z2 zf zl H2 u0 u1 u2 hsN BN4 v0 v1 v2 hsM BM
 obtain⟨z0,z1,z2⟩:=(uI S5).R.at3
 have zf:=(uI S5).R.2.2
 have zl:=(uI S5).R.1
 go_wp2_with fail
 obtain⟨p0,p1,p2⟩:=((uI S5).R.three (.int .u64 V) (.int .i64 b) (.bool s)).at3
 exact bodyPost_ret (v:=.tuple #[.agg #[.int .u64 V,.int .i64 b,.bool s],.int .i64 er]) (by simp[results,Tryz.results28,go_sem,p0,p1,p2]) rfl ⟨rfl,qbs (uI S5).d (by omega) _ _ _⟩
end Go.Proofs.YtjpnnmkefaodoaaGreat
