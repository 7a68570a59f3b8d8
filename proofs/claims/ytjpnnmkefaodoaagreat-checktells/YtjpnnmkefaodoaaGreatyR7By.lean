/-
  R7B, R7H, CkA.
-/
import Derived.BigRegion
import Derived.Deep.DeepCutAuto
import Derived.Test.YtjpnnmkefaodoaaGreatyTyMy
set_option maxHeartbeats 8000000
set_option maxRecDepth 100000
namespace Go.Proofs.YtjpnnmkefaodoaaGreat
open Go.RowKit
set_option linter.unusedSimpArgs false
set_option linter.unusedVariables false
structure Sq (w:World)(a0 a1 b0 b1:Value)(f5 f6:Bool)(p5 p6:Nat)(W:World):Prop where
 tri:Tri w W a0 a1 b0 b1 (.int .i64 0) (.bool false)
 b5:f5=true→w.heap.size+2<p5∧Box W p5 [.int .i64 0,.bool false]
 b6:f6=true→w.heap.size+2<p6∧Box W p6 [.int .i64 0,.bool false]
 ne:f5=true→f6=true→p5≠p6
section
variable {w W W':World} {a0 a1 b0 b1:Value} {f5 f6:Bool} {p5 p6:Nat}
theorem Sq.call (h:Sq w a0 a1 b0 b1 f5 f6 p5 p6 W)(k:Below W.heap.size W W'):Sq w a0 a1 b0 b1 f5 f6 p5 p6 W':=⟨h.tri.step k,fun e=>⟨(h.b5 e).1,(h.b5 e).2.step k⟩,fun e=>⟨(h.b6 e).1,(h.b6 e).2.step k⟩,h.ne⟩
theorem Sq.op4 {T:TypeId}(h:Sq w a0 a1 b0 b1 false f6 p5 p6 W):Sq w a0 a1 b0 b1 true f6 W.heap.size p6 (W.alloc (.cells #[.int .i64 0,.bool false] T)):=by
 have k:=qaa W (.cells #[.int .i64 0,.bool false] T)
 have hl:=h.tri.C.1
 exact⟨h.tri.step k,fun _=>⟨by omega,Box.new W #[.int .i64 0,.bool false] T⟩,fun e=>⟨(h.b6 e).1,(h.b6 e).2.step k⟩,fun _ e=>by have:=(h.b6 e).2.1;omega⟩
theorem Sq.op5 {T:TypeId}(h:Sq w a0 a1 b0 b1 f5 false p5 p6 W):Sq w a0 a1 b0 b1 f5 true p5 W.heap.size (W.alloc (.cells #[.int .i64 0,.bool false] T)):=by
 have k:=qaa W (.cells #[.int .i64 0,.bool false] T)
 have hl:=h.tri.C.1
 exact⟨h.tri.step k,fun e=>⟨(h.b5 e).1,(h.b5 e).2.step k⟩,fun _=>⟨by omega,Box.new W #[.int .i64 0,.bool false] T⟩,fun e _=>by have:=(h.b5 e).2.1;omega⟩
end
theorem qah (a:Int)(s:Bool)(b:Int)(t:Bool)(w:World):Calls Tryz.prog 67 #[.agg #[.int .i64 a,.bool s],.agg #[.int .i64 b,.bool t]] w fun e w'=>e=.returned (.agg #[.int .i64 (cb a b),.bool (cs a s b t)])∧Below w.heap.size w w':=by
 have e1:Hid (cb a b=if pb a<pb b then pb b else pb a):=rfl
 have e2:Hid (cs a s b t=if pb b<pb a then ps a s else if pb a<pb b then ps b t else ps a s&&ps b t):=rfl
 have HA:=zX (qbj a s)
 have HB:=zX (qbj b t)
 generalize cb a b=X at *
 generalize cs a s b t=Y at *
 generalize pb a=A at *
 generalize pb b=B at *
 generalize ps a s=S at *
 generalize ps b t=U at *
 go_enter Tryz.func67,Tryz.ntmps67
 go_upto_region 1 with fail
 have T:Hid (Sq w (.int .i64 a) (.bool s) (.int .i64 b) (.bool t) false false 0 0 ((((w.alloc (.cells #[.int .i64 a,.bool s] 34)).alloc (.cells #[.int .i64 b,.bool t] 34)).alloc (.cells #[.int .i64 0,.bool false] 34)).drew)):=⟨Tri.new (Below.refl _ _),(fun h=>by cases h),(fun h=>by cases h),(fun h=>by cases h)⟩
 have HC:Hid (∀ W:World,Tri w W (.int .i64 a) (.bool s) (.int .i64 b) (.bool t) (.int .i64 0) (.bool false)→(W.cell? ⟨w.heap.size,0,none⟩=some (.int .i64 a)∧W.cell? ⟨w.heap.size,1,none⟩=some (.bool s)∧W.cell? ⟨w.heap.size+1,0,none⟩=some (.int .i64 b)∧W.cell? ⟨w.heap.size+1,1,none⟩=some (.bool t))):=fun W h=>⟨h.A.at2.1,h.A.at2.2,h.B.at2.1,h.B.at2.2⟩
 refine zU (fun W=>W.cell? ⟨w.heap.size,0,none⟩=some (.int .i64 a)∧W.cell? ⟨w.heap.size,1,none⟩=some (.bool s)∧W.cell? ⟨w.heap.size+1,0,none⟩=some (.int .i64 b)∧W.cell? ⟨w.heap.size+1,1,none⟩=some (.bool t)) (by kernel_rfl) ?_
 generalize ((((w.alloc (.cells #[.int .i64 a,.bool s] 34)).alloc (.cells #[.int .i64 b,.bool t] 34)).alloc (.cells #[.int .i64 0,.bool false] 34)).drew)=W at *
 refine qR 0 1 7 ?_
 simp only[zTD]
 repeat (refine zS (fun K hK=>?_);go_simp;first|(refine zQ ?_ (fun W hW=>?_) (hK _ ?_);rotate_left;(obtain⟨c1,c2,c3,c4⟩:=hW;go_simp;first|done|rfl);clear hK K)|(refine hK _ ?_;clear hK K))
 refine zO ?_
 refine qR 2 1 6 ?_
 simp only[zTD]
 repeat (refine zS (fun K hK=>?_);go_simp;first|(refine zQ ?_ (fun W hW=>?_) (hK _ ?_);rotate_left;(obtain⟨c1,c2,c3,c4⟩:=hW;go_simp;first|done|rfl);clear hK K)|(refine hK _ ?_;clear hK K))
 refine zO ?_
 apply reg_meet2 (R:=fun p5 p6 W=>Sq w (.int .i64 a) (.bool s) (.int .i64 b) (.bool t) true true p5 p6 W)
 ·intro hm
  refine reg_three 1 4 5 5 (by kernel_rfl) (by kernel_rfl) ((uX HC) W (uX T).tri) ?_ ?_ ?_
  ·skip
   simp only[zTD]
   go_wp2_with fail
   refine (uX HA _).mono ?_
   rintro e wn ⟨rfl,kn⟩
   have T':=zX ((uX T).call kn)
   have T:=T'
   clear kn T'
   generalize wn=W at *
   go_wp2_with fail
   first|refine zN ?_|refine zG ?_
   refine reg_three 3 4 5 4 (by kernel_rfl) (by kernel_rfl) ((uX HC) W (uX T).tri) ?_ ?_ ?_
   ·skip
    simp only[zTD]
    go_wp2_with fail
    refine (uX HB _).mono ?_
    rintro e wn ⟨rfl,kn⟩
    have T':=zX ((uX T).call kn)
    have T:=T'
    clear kn T'
    generalize wn=W at *
    go_wp2_with fail
    first|refine zN ?_|refine zG ?_
    refine qbv 4 5 3 (by kernel_rfl) (by kernel_rfl) ((uX HC) W (uX T).tri) ?_ ?_
    ·skip
     simp only[zTD]
     go_wp2_with fail
     have T':=zX ((uX T).op4 (T:=34))
     have T:=T'
     clear T'
     generalize W.alloc (.cells #[.int .i64 0,.bool false] 34)=W' at *
     generalize W.heap.size=p5 at *
     generalize W'=W at *
     first|refine zN ?_|refine zG ?_
     refine qO 5 2 ((uX HC) W (uX T).tri) ?_
     simp only[zTD]
     go_wp2_with fail
     have T':=zX ((uX T).op5 (T:=34))
     have T:=T'
     clear T'
     generalize W.alloc (.cells #[.int .i64 0,.bool false] 34)=W' at *
     generalize W.heap.size=p6 at *
     generalize W'=W at *
     first|refine zN ?_|refine zG ?_
     exact hm p5 p6 W (uX T)
    ·skip
     simp only[zTD]
     go_wp2_with fail
     have T':=zX ((uX T).op5 (T:=34))
     have T:=T'
     clear T'
     generalize W.alloc (.cells #[.int .i64 0,.bool false] 34)=W' at *
     generalize W.heap.size=p6 at *
     generalize W'=W at *
     first|refine zN ?_|refine zG ?_
     refine qO 4 2 ((uX HC) W (uX T).tri) ?_
     simp only[zTD]
     go_wp2_with fail
     have T':=zX ((uX T).op4 (T:=34))
     have T:=T'
     clear T'
     generalize W.alloc (.cells #[.int .i64 0,.bool false] 34)=W' at *
     generalize W.heap.size=p5 at *
     generalize W'=W at *
     first|refine zN ?_|refine zG ?_
     exact hm p5 p6 W (uX T)
   ·skip
    simp only[zTD]
    go_wp2_with fail
    have T':=zX ((uX T).op4 (T:=34))
    have T:=T'
    clear T'
    generalize W.alloc (.cells #[.int .i64 0,.bool false] 34)=W' at *
    generalize W.heap.size=p5 at *
    generalize W'=W at *
    first|refine zN ?_|refine zG ?_
    refine qbv 3 5 3 (by kernel_rfl) (by kernel_rfl) ((uX HC) W (uX T).tri) ?_ ?_
    ·skip
     simp only[zTD]
     go_wp2_with fail
     refine (uX HB _).mono ?_
     rintro e wn ⟨rfl,kn⟩
     have T':=zX ((uX T).call kn)
     have T:=T'
     clear kn T'
     generalize wn=W at *
     go_wp2_with fail
     first|refine zN ?_|refine zG ?_
     refine qO 5 2 ((uX HC) W (uX T).tri) ?_
     simp only[zTD]
     go_wp2_with fail
     have T':=zX ((uX T).op5 (T:=34))
     have T:=T'
     clear T'
     generalize W.alloc (.cells #[.int .i64 0,.bool false] 34)=W' at *
     generalize W.heap.size=p6 at *
     generalize W'=W at *
     first|refine zN ?_|refine zG ?_
     exact hm p5 p6 W (uX T)
    ·skip
     simp only[zTD]
     go_wp2_with fail
     have T':=zX ((uX T).op5 (T:=34))
     have T:=T'
     clear T'
     generalize W.alloc (.cells #[.int .i64 0,.bool false] 34)=W' at *
     generalize W.heap.size=p6 at *
     generalize W'=W at *
     first|refine zN ?_|refine zG ?_
     refine qO 3 2 ((uX HC) W (uX T).tri) ?_
     simp only[zTD]
     go_wp2_with fail
     refine (uX HB _).mono ?_
     rintro e wn ⟨rfl,kn⟩
     have T':=zX ((uX T).call kn)
     have T:=T'
     clear kn T'
     generalize wn=W at *
     go_wp2_with fail
     first|refine zN ?_|refine zG ?_
     exact hm p5 p6 W (uX T)
   ·skip
    simp only[zTD]
    go_wp2_with fail
    have T':=zX ((uX T).op5 (T:=34))
    have T:=T'
    clear T'
    generalize W.alloc (.cells #[.int .i64 0,.bool false] 34)=W' at *
    generalize W.heap.size=p6 at *
    generalize W'=W at *
    first|refine zN ?_|refine zG ?_
    refine qbv 3 4 3 (by kernel_rfl) (by kernel_rfl) ((uX HC) W (uX T).tri) ?_ ?_
    ·skip
     simp only[zTD]
     go_wp2_with fail
     refine (uX HB _).mono ?_
     rintro e wn ⟨rfl,kn⟩
     have T':=zX ((uX T).call kn)
     have T:=T'
     clear kn T'
     generalize wn=W at *
     go_wp2_with fail
     first|refine zN ?_|refine zG ?_
     refine qO 4 2 ((uX HC) W (uX T).tri) ?_
     simp only[zTD]
     go_wp2_with fail
     have T':=zX ((uX T).op4 (T:=34))
     have T:=T'
     clear T'
     generalize W.alloc (.cells #[.int .i64 0,.bool false] 34)=W' at *
     generalize W.heap.size=p5 at *
     generalize W'=W at *
     first|refine zN ?_|refine zG ?_
     exact hm p5 p6 W (uX T)
    ·skip
     simp only[zTD]
     go_wp2_with fail
     have T':=zX ((uX T).op4 (T:=34))
     have T:=T'
     clear T'
     generalize W.alloc (.cells #[.int .i64 0,.bool false] 34)=W' at *
     generalize W.heap.size=p5 at *
     generalize W'=W at *
     first|refine zN ?_|refine zG ?_
     refine qO 3 2 ((uX HC) W (uX T).tri) ?_
     simp only[zTD]
     go_wp2_with fail
     refine (uX HB _).mono ?_
     rintro e wn ⟨rfl,kn⟩
     have T':=zX ((uX T).call kn)
     have T:=T'
     clear kn T'
     generalize wn=W at *
     go_wp2_with fail
     first|refine zN ?_|refine zG ?_
     exact hm p5 p6 W (uX T)
  ·skip
   simp only[zTD]
   go_wp2_with fail
   have T':=zX ((uX T).op4 (T:=34))
   have T:=T'
   clear T'
   generalize W.alloc (.cells #[.int .i64 0,.bool false] 34)=W' at *
   generalize W.heap.size=p5 at *
   generalize W'=W at *
   first|refine zN ?_|refine zG ?_
   refine qbv 1 5 4 (by kernel_rfl) (by kernel_rfl) ((uX HC) W (uX T).tri) ?_ ?_
   ·skip
    simp only[zTD]
    go_wp2_with fail
    refine (uX HA _).mono ?_
    rintro e wn ⟨rfl,kn⟩
    have T':=zX ((uX T).call kn)
    have T:=T'
    clear kn T'
    generalize wn=W at *
    go_wp2_with fail
    first|refine zN ?_|refine zG ?_
    refine qbv 3 5 3 (by kernel_rfl) (by kernel_rfl) ((uX HC) W (uX T).tri) ?_ ?_
    ·skip
     simp only[zTD]
     go_wp2_with fail
     refine (uX HB _).mono ?_
     rintro e wn ⟨rfl,kn⟩
     have T':=zX ((uX T).call kn)
     have T:=T'
     clear kn T'
     generalize wn=W at *
     go_wp2_with fail
     first|refine zN ?_|refine zG ?_
     refine qO 5 2 ((uX HC) W (uX T).tri) ?_
     simp only[zTD]
     go_wp2_with fail
     have T':=zX ((uX T).op5 (T:=34))
     have T:=T'
     clear T'
     generalize W.alloc (.cells #[.int .i64 0,.bool false] 34)=W' at *
     generalize W.heap.size=p6 at *
     generalize W'=W at *
     first|refine zN ?_|refine zG ?_
     exact hm p5 p6 W (uX T)
    ·skip
     simp only[zTD]
     go_wp2_with fail
     have T':=zX ((uX T).op5 (T:=34))
     have T:=T'
     clear T'
     generalize W.alloc (.cells #[.int .i64 0,.bool false] 34)=W' at *
     generalize W.heap.size=p6 at *
     generalize W'=W at *
     first|refine zN ?_|refine zG ?_
     refine qO 3 2 ((uX HC) W (uX T).tri) ?_
     simp only[zTD]
     go_wp2_with fail
     refine (uX HB _).mono ?_
     rintro e wn ⟨rfl,kn⟩
     have T':=zX ((uX T).call kn)
     have T:=T'
     clear kn T'
     generalize wn=W at *
     go_wp2_with fail
     first|refine zN ?_|refine zG ?_
     exact hm p5 p6 W (uX T)
   ·skip
    simp only[zTD]
    go_wp2_with fail
    have T':=zX ((uX T).op5 (T:=34))
    have T:=T'
    clear T'
    generalize W.alloc (.cells #[.int .i64 0,.bool false] 34)=W' at *
    generalize W.heap.size=p6 at *
    generalize W'=W at *
    first|refine zN ?_|refine zG ?_
    refine qO 1 3 ((uX HC) W (uX T).tri) ?_
    simp only[zTD]
    go_wp2_with fail
    refine (uX HA _).mono ?_
    rintro e wn ⟨rfl,kn⟩
    have T':=zX ((uX T).call kn)
    have T:=T'
    clear kn T'
    generalize wn=W at *
    go_wp2_with fail
    first|refine zN ?_|refine zG ?_
    refine qO 3 2 ((uX HC) W (uX T).tri) ?_
    simp only[zTD]
    go_wp2_with fail
    refine (uX HB _).mono ?_
    rintro e wn ⟨rfl,kn⟩
    have T':=zX ((uX T).call kn)
    have T:=T'
    clear kn T'
    generalize wn=W at *
    go_wp2_with fail
    first|refine zN ?_|refine zG ?_
    exact hm p5 p6 W (uX T)
  ·skip
   simp only[zTD]
   go_wp2_with fail
   have T':=zX ((uX T).op5 (T:=34))
   have T:=T'
   clear T'
   generalize W.alloc (.cells #[.int .i64 0,.bool false] 34)=W' at *
   generalize W.heap.size=p6 at *
   generalize W'=W at *
   first|refine zN ?_|refine zG ?_
   refine qbv 1 4 4 (by kernel_rfl) (by kernel_rfl) ((uX HC) W (uX T).tri) ?_ ?_
   ·skip
    simp only[zTD]
    go_wp2_with fail
    refine (uX HA _).mono ?_
    rintro e wn ⟨rfl,kn⟩
    have T':=zX ((uX T).call kn)
    have T:=T'
    clear kn T'
    generalize wn=W at *
    go_wp2_with fail
    first|refine zN ?_|refine zG ?_
    refine qbv 3 4 3 (by kernel_rfl) (by kernel_rfl) ((uX HC) W (uX T).tri) ?_ ?_
    ·skip
     simp only[zTD]
     go_wp2_with fail
     refine (uX HB _).mono ?_
     rintro e wn ⟨rfl,kn⟩
     have T':=zX ((uX T).call kn)
     have T:=T'
     clear kn T'
     generalize wn=W at *
     go_wp2_with fail
     first|refine zN ?_|refine zG ?_
     refine qO 4 2 ((uX HC) W (uX T).tri) ?_
     simp only[zTD]
     go_wp2_with fail
     have T':=zX ((uX T).op4 (T:=34))
     have T:=T'
     clear T'
     generalize W.alloc (.cells #[.int .i64 0,.bool false] 34)=W' at *
     generalize W.heap.size=p5 at *
     generalize W'=W at *
     first|refine zN ?_|refine zG ?_
     exact hm p5 p6 W (uX T)
    ·skip
     simp only[zTD]
     go_wp2_with fail
     have T':=zX ((uX T).op4 (T:=34))
     have T:=T'
     clear T'
     generalize W.alloc (.cells #[.int .i64 0,.bool false] 34)=W' at *
     generalize W.heap.size=p5 at *
     generalize W'=W at *
     first|refine zN ?_|refine zG ?_
     refine qO 3 2 ((uX HC) W (uX T).tri) ?_
     simp only[zTD]
     go_wp2_with fail
     refine (uX HB _).mono ?_
     rintro e wn ⟨rfl,kn⟩
     have T':=zX ((uX T).call kn)
     have T:=T'
     clear kn T'
     generalize wn=W at *
     go_wp2_with fail
     first|refine zN ?_|refine zG ?_
     exact hm p5 p6 W (uX T)
   ·skip
    simp only[zTD]
    go_wp2_with fail
    have T':=zX ((uX T).op4 (T:=34))
    have T:=T'
    clear T'
    generalize W.alloc (.cells #[.int .i64 0,.bool false] 34)=W' at *
    generalize W.heap.size=p5 at *
    generalize W'=W at *
    first|refine zN ?_|refine zG ?_
    refine qO 1 3 ((uX HC) W (uX T).tri) ?_
    simp only[zTD]
    go_wp2_with fail
    refine (uX HA _).mono ?_
    rintro e wn ⟨rfl,kn⟩
    have T':=zX ((uX T).call kn)
    have T:=T'
    clear kn T'
    generalize wn=W at *
    go_wp2_with fail
    first|refine zN ?_|refine zG ?_
    refine qO 3 2 ((uX HC) W (uX T).tri) ?_
    simp only[zTD]
    go_wp2_with fail
    refine (uX HB _).mono ?_
    rintro e wn ⟨rfl,kn⟩
    have T':=zX ((uX T).call kn)
    have T:=T'
    clear kn T'
    generalize wn=W at *
    go_wp2_with fail
    first|refine zN ?_|refine zG ?_
    exact hm p5 p6 W (uX T)
 ·intro p5 p6 W T0
  have l5:=(T0.b5 rfl).1
  have l6:=(T0.b6 rfl).1
  have hne:=T0.ne rfl rfl
  have G5:=zX (T0.b5 rfl).2
  have G6:=zX (T0.b6 rfl).2
  have T:=zX T0.tri
  clear T0
  obtain⟨x0,x1⟩:=(uX G5).at2
  have x2:=(uX G5).2.2
  refine qO 6 1 ((uX HC) W (uX T)) ?_
  simp only[zTD]
  go_wp2_with fail
  first|refine zN ?_|refine zG ?_
  have T':Hid (Tri w ((W.setCell ⟨p5,0,none⟩ (.int .i64 A)).setCell ⟨p5,1,none⟩ (.bool S)) (.int .i64 a) (.bool s) (.int .i64 b) (.bool t) (.int .i64 0) (.bool false)):=⟨zY (uX T).bel (by omega) _ _,((uX T).A.other (by omega)).other (by omega),((uX T).B.other (by omega)).other (by omega),((uX T).C.other (by omega)).other (by omega)⟩
  have P5:=zX ((uX G5).put (.int .i64 A) (.bool S))
  have P6:=zX (((uX G6).other (b':=p5) (j:=0) (u:=.int .i64 A) (Ne.symm hne)).other (b':=p5) (j:=1) (u:=.bool S) (Ne.symm hne))
  clear T G5 G6 x0 x1 x2
  generalize (W.setCell ⟨p5,0,none⟩ (.int .i64 A)).setCell ⟨p5,1,none⟩ (.bool S)=W1 at *
  obtain⟨x0,x1⟩:=(uX P6).at2
  have x2:=(uX P6).2.2
  refine qO 7 0 ((uX HC) W1 (uX T')) ?_
  simp only[zTD]
  go_wp2_with fail
  first|refine zN ?_|refine zG ?_
  have T2:Hid (Tri w ((W1.setCell ⟨p6,0,none⟩ (.int .i64 B)).setCell ⟨p6,1,none⟩ (.bool U)) (.int .i64 a) (.bool s) (.int .i64 b) (.bool t) (.int .i64 0) (.bool false)):=⟨zY (uX T').bel (by omega) _ _,((uX T').A.other (by omega)).other (by omega),((uX T').B.other (by omega)).other (by omega),((uX T').C.other (by omega)).other (by omega)⟩
  have Q6:=zX ((uX P6).put (.int .i64 B) (.bool U))
  have Q5:=zX (((uX P5).other (b':=p6) (j:=0) (u:=.int .i64 B) hne).other (b':=p6) (j:=1) (u:=.bool U) hne)
  clear T' P5 P6 x0 x1 x2
  generalize (W1.setCell ⟨p6,0,none⟩ (.int .i64 B)).setCell ⟨p6,1,none⟩ (.bool U)=W2 at *
  refine zE (by kernel_rfl) ((uX HC) W2 (uX T2)) ?_
  have KE:=zX (uX T2).bel
  obtain⟨x0,x1⟩:=(uX Q5).at2
  obtain⟨x2,x3⟩:=(uX Q6).at2
  obtain⟨x4,x5⟩:=(uX T2).C.at2
  have f2:=(uX T2).C.2.2
  have p0:=(uX T2).C.put0
  have p1:=(uX T2).C.put1
  unfold Hid at e1 e2
  by_cases h1:A=B
  ·have d1:(A==B)=true:=beq_iff_eq.2 h1
   rw[if_neg (by omega)] at e1
   rw[if_neg (by omega),if_neg (by omega)] at e2
   cases U
   ·have e2':Y=false:=by rw[e2];simp
    have e1':X=B:=by rw[e1];exact h1
    clear e1 e2 h1
    subst e1' e2'
    go_wp2_with fail
    exact bodyPost_ret (v:=.agg #[.int .i64 X,.bool false]) (by simp[results,Tryz.results67,go_sem,p0,p1]) rfl ⟨rfl,zY (uX KE) (by omega) _ _⟩
   ·have e2':Y=S:=by rw[e2];simp
    clear e2 h1
    subst e1 e2'
    go_wp2_with fail
    exact bodyPost_ret (v:=.agg #[.int .i64 X,.bool Y]) (by simp[results,Tryz.results67,go_sem,p0,p1]) rfl ⟨rfl,zY (uX KE) (by omega) _ _⟩
  ·have d1:(A==B)=false:=zBq h1
   by_cases h2:A<B
   ·have d2:decide (A<B)=true:=by simpa using h2
    rw[if_pos h2] at e1
    rw[if_neg (by omega),if_pos h2] at e2
    subst e1 e2
    go_wp2_with fail
    exact bodyPost_ret (v:=.agg #[.int .i64 X,.bool Y]) (by simp[results,Tryz.results67,go_sem,p0,p1]) rfl ⟨rfl,zY (uX KE) (by omega) _ _⟩
   ·have d2:decide (A<B)=false:=by simpa using h2
    rw[if_neg h2] at e1
    rw[if_pos (by omega)] at e2
    subst e1 e2
    go_wp2_with fail
    exact bodyPost_ret (v:=.agg #[.int .i64 X,.bool Y]) (by simp[results,Tryz.results67,go_sem,p0,p1]) rfl ⟨rfl,zY (uX KE) (by omega) _ _⟩
def wds (b:Int):Int:=if b=8 then 1 else if b=16 then 1 else if b=32 then 2 else 4
theorem twords_any (b:Int)(s:Bool)(w:World)(h:IsW b):Calls Tryz.prog 27 #[.agg #[.int .i64 b,.bool s]] w fun e w'=>e=.returned (.int .i64 (wds b))∧Below w.heap.size w w':=by
 rcases h with rfl|rfl|rfl|rfl
 all_goals
  go_enter Tryz.func27,Tryz.ntmps27
  go_wp2
  go_ret
  exact⟨by kernel_rfl,qaa _ _⟩
def rb (k a b:Int):Int:=if shB k=true then pb a else if cpB k=true then 16 else cb a b
def rs (k a:Int)(s:Bool)(b:Int)(t:Bool):Bool:=if shB k=true then ps a s else if cpB k=true then true else cs a s b t
theorem Tri.put' {w w1:World}{a0 a1 b0 b1 c0 c1:Value}(h:Tri w w1 a0 a1 b0 b1 c0 c1)(u v:Value):Below w.heap.size w ((w1.setCell ⟨w.heap.size+1+1,0,none⟩ u).setCell ⟨w.heap.size+1+1,1,none⟩ v):=zY h.bel (by omega) _ _
theorem result_any (k a:Int)(s:Bool)(b:Int)(t:Bool)(w:World):Calls Tryz.prog 89 #[.int .i64 k,.agg #[.int .i64 a,.bool s],.agg #[.int .i64 b,.bool t]] w fun e w'=>e=.returned (.agg #[.int .i64 (rb k a b),.bool (rs k a s b t)])∧Below w.heap.size w w':=by
 have SH:=zX (fun (w:World)=>shifts_any k w)
 have CP:=zX (fun (w:World)=>compares_any k w)
 unfold rb rs
 have R:=zX (Tri.new' (w:=w) (T:=34) (a0:=.int .i64 a) (a1:=.bool s) (b0:=.int .i64 b) (b1:=.bool t) (c0:=.int .i64 0) (c1:=.bool false) (Below.refl _ _))
 by_cases h1:shB k=true
 ·rw[if_pos h1,if_pos h1]
  rw[h1] at SH
  go_enter Tryz.func89,Tryz.ntmps89
  go_wp2_with fail
  generalize ((w.alloc (.cells #[.int .i64 a,.bool s] 34)).alloc (.cells #[.int .i64 b,.bool t] 34)).alloc (.cells #[.int .i64 0,.bool false] 34)=w1 at *
  refine (uX SH _).mono ?_
  rintro e w' ⟨rfl,hw⟩
  subst w'
  obtain⟨x0,x1⟩:=(uX R).A.at2
  go_wp2_with fail
  refine (qa6 a s w1).mono ?_
  rintro e w2 ⟨rfl,k2⟩
  have R':=zX ((uX R).step k2)
  clear R k2 x0 x1
  have R:=R'
  clear R'
  obtain⟨x0,x1⟩:=(uX R).A.at2
  obtain⟨x2,x3⟩:=(uX R).B.at2
  obtain⟨x4,x5⟩:=(uX R).C.at2
  have xf:=(uX R).C.2.2
  have p0:=(uX R).C.put0
  have p1:=(uX R).C.put1
  go_wp2_with fail
  exact bodyPost_ret (v:=.agg #[.int .i64 (pb a),.bool (ps a s)]) (by simp[results,Tryz.results89,go_sem,p0,p1]) rfl ⟨rfl,(uX R).put' _ _⟩
 ·rw[if_neg h1,if_neg h1]
  have h1':shB k=false:=by simpa using h1
  rw[h1'] at SH
  by_cases h2:cpB k=true
  ·rw[if_pos h2,if_pos h2]
   rw[h2] at CP
   go_enter Tryz.func89,Tryz.ntmps89
   go_wp2_with fail
   generalize ((w.alloc (.cells #[.int .i64 a,.bool s] 34)).alloc (.cells #[.int .i64 b,.bool t] 34)).alloc (.cells #[.int .i64 0,.bool false] 34)=w1 at *
   refine (uX SH _).mono ?_
   rintro e w' ⟨rfl,hw⟩
   subst w'
   go_wp2_with fail
   refine (uX CP _).mono ?_
   rintro e w' ⟨rfl,hw⟩
   subst w'
   go_wp2_with fail
   refine (i16_any w1).mono ?_
   rintro e w2 ⟨rfl,k2⟩
   have R':=zX ((uX R).step k2)
   clear R k2
   have R:=R'
   clear R'
   obtain⟨x0,x1⟩:=(uX R).A.at2
   obtain⟨x2,x3⟩:=(uX R).B.at2
   obtain⟨x4,x5⟩:=(uX R).C.at2
   have xf:=(uX R).C.2.2
   have p0:=(uX R).C.put0
   have p1:=(uX R).C.put1
   go_wp2_with fail
   exact bodyPost_ret (v:=.agg #[.int .i64 16,.bool true]) (by simp[results,Tryz.results89,go_sem,p0,p1]) rfl ⟨rfl,(uX R).put' _ _⟩
  ·rw[if_neg h2,if_neg h2]
   have h2':cpB k=false:=by simpa using h2
   rw[h2'] at CP
   go_enter Tryz.func89,Tryz.ntmps89
   go_wp2_with fail
   generalize ((w.alloc (.cells #[.int .i64 a,.bool s] 34)).alloc (.cells #[.int .i64 b,.bool t] 34)).alloc (.cells #[.int .i64 0,.bool false] 34)=w1 at *
   refine (uX SH _).mono ?_
   rintro e w' ⟨rfl,hw⟩
   subst w'
   go_wp2_with fail
   refine (uX CP _).mono ?_
   rintro e w' ⟨rfl,hw⟩
   subst w'
   obtain⟨x0,x1⟩:=(uX R).A.at2
   obtain⟨x2,x3⟩:=(uX R).B.at2
   go_wp2_with fail
   refine (common_any a s b t w1).mono ?_
   rintro e w2 ⟨rfl,k2⟩
   have R':=zX ((uX R).step k2)
   clear R k2 x0 x1 x2 x3
   have R:=R'
   clear R'
   obtain⟨x0,x1⟩:=(uX R).A.at2
   obtain⟨x2,x3⟩:=(uX R).B.at2
   obtain⟨x4,x5⟩:=(uX R).C.at2
   have xf:=(uX R).C.2.2
   have p0:=(uX R).C.put0
   have p1:=(uX R).C.put1
   go_wp2_with fail
   exact bodyPost_ret (v:=.agg #[.int .i64 (cb a b),.bool (cs a s b t)]) (by simp[results,Tryz.results89,go_sem,p0,p1]) rfl ⟨rfl,(uX R).put' _ _⟩
theorem rresult_any (k a:Int)(s:Bool)(b:Int)(t:Bool)(w:World):Calls Tryz.prog 42 #[.int .i64 k,.agg #[.int .i64 a,.bool s],.agg #[.int .i64 b,.bool t]] w fun e w'=>e=.returned (.agg #[.int .i64 (rb k a b),.bool (rs k a s b t)])∧Below w.heap.size w w':=by
 unfold rb rs
 have R:=zX (Tri.new' (w:=w) (T:=34) (a0:=.int .i64 a) (a1:=.bool s) (b0:=.int .i64 b) (b1:=.bool t) (c0:=.int .i64 0) (c1:=.bool false) (Below.refl _ _))
 by_cases h1:shB k=true
 ·rw[if_pos h1,if_pos h1]
  have hk:k=14∨k=15:=by unfold shB at h1;simpa using h1
  rcases hk with rfl|rfl
  all_goals
   go_enter Tryz.func42,Tryz.ntmps42
   go_wp2_with fail
   generalize ((w.alloc (.cells #[.int .i64 a,.bool s] 34)).alloc (.cells #[.int .i64 b,.bool t] 34)).alloc (.cells #[.int .i64 0,.bool false] 34)=w1 at *
   refine (qbj a s w1).mono ?_
   rintro e w2 ⟨rfl,k2⟩
   have R':=zX ((uX R).step k2)
   clear R k2
   have R:=R'
   clear R'
   obtain⟨x0,x1⟩:=(uX R).A.at2
   obtain⟨x2,x3⟩:=(uX R).B.at2
   obtain⟨x4,x5⟩:=(uX R).C.at2
   have xf:=(uX R).C.2.2
   have p0:=(uX R).C.put0
   have p1:=(uX R).C.put1
   go_wp2_with fail
   exact bodyPost_ret (v:=.agg #[.int .i64 (pb a),.bool (ps a s)]) (by simp[results,Tryz.results42,go_sem,p0,p1]) rfl ⟨rfl,(uX R).put' _ _⟩
 ·rw[if_neg h1,if_neg h1]
  have h1':¬ (k=14∨k=15):=by unfold shB at h1;simpa using h1
  have n1:(k==14)=false:=zBq (by omega)
  have n2:(k==15)=false:=zBq (by omega)
  by_cases h2:cpB k=true
  ·rw[if_pos h2,if_pos h2]
   have hk:16≤k∧k≤21:=by unfold cpB at h2;simpa using h2
   have hk':k=16∨k=17∨k=18∨k=19∨k=20∨k=21:=by omega
   clear h1 h1' h2 hk n1 n2
   rcases hk' with rfl|rfl|rfl|rfl|rfl|rfl
   all_goals
    go_enter Tryz.func42,Tryz.ntmps42
    go_wp2_with fail
    exact bodyPost_ret (v:=.agg #[.int .i64 16,.bool true]) (by simp[results,Tryz.results42,go_sem]) rfl ⟨rfl,(by repeat (first|exact (Below.refl _ _)|refine Below.setCell ?_ (by first|exact Nat.le_refl _|(simp;done)|omega|(simp;omega)) _|refine Below.alloc ?_ (by first|(simp;done)|omega|(simp;omega)) _))⟩
  ·rw[if_neg h2,if_neg h2]
   have hk:¬ (16≤k∧k≤21):=by unfold cpB at h2;simpa using h2
   have m1:(k==16)=false:=zBq (by omega)
   have m2:(k==17)=false:=zBq (by omega)
   have m3:(k==18)=false:=zBq (by omega)
   have m4:(k==19)=false:=zBq (by omega)
   have m5:(k==20)=false:=zBq (by omega)
   have m6:(k==21)=false:=zBq (by omega)
   clear h1 h1' h2 hk
   go_enter Tryz.func42,Tryz.ntmps42
   go_wp2_with fail
   generalize ((w.alloc (.cells #[.int .i64 a,.bool s] 34)).alloc (.cells #[.int .i64 b,.bool t] 34)).alloc (.cells #[.int .i64 0,.bool false] 34)=w1 at *
   refine (qah a s b t w1).mono ?_
   rintro e w2 ⟨rfl,k2⟩
   have R':=zX ((uX R).step k2)
   clear R k2
   have R:=R'
   clear R'
   obtain⟨x0,x1⟩:=(uX R).A.at2
   obtain⟨x2,x3⟩:=(uX R).B.at2
   obtain⟨x4,x5⟩:=(uX R).C.at2
   have xf:=(uX R).C.2.2
   have p0:=(uX R).C.put0
   have p1:=(uX R).C.put1
   go_wp2_with fail
   exact bodyPost_ret (v:=.agg #[.int .i64 (cb a b),.bool (cs a s b t)]) (by simp[results,Tryz.results42,go_sem,p0,p1]) rfl ⟨rfl,(uX R).put' _ _⟩
def binP (k a b x:Int)(s:Bool)(y:Int)(t:Bool):Int × Int :=
 if k=14∨k=15 then (shf k (ps x s) (pb x) (conv a x s (pb x)) (conv b y t 16),0)
 else if 16≤k∧k≤21 then (b1 (hld k (cs x s y t) (cb x y) (conv a x s (cb x y)) (conv b y t (cb x y))),0)
 else wrk k (cs x s y t) (cb x y) (conv a x s (cb x y)) (conv b y t (cb x y))
def unP (k a x:Int)(s:Bool):Int × Int × Bool :=
 if k=6 then (cut (pb x) (-conv a x s (pb x)),pb x,ps x s)
 else if k=7 then (cut (pb x) (-conv a x s (pb x) - 1),pb x,ps x s)
 else (b1 (conv a x s (pb x)==0),16,true)
def cnO (k b:Int)(s:Bool):List (Int × Int × Bool)→Int × Int × Bool × Int
 | []=>(0,0,false,8)
 | [a]=>if k=5 then (conv a.1 a.2.1 a.2.2 b,b,s,0) else ((unP k a.1 a.2.1 a.2.2).1,(unP k a.1 a.2.1 a.2.2).2.1,(unP k a.1 a.2.1 a.2.2).2.2,0)
 | a::c::_ =>
  if k=25 then ((if ((a.1 != 0)&&(c.1 != 0))=true then 1 else 0),16,true,0)
  else if k=26 then ((if ((a.1 != 0) || (c.1 != 0))=true then 1 else 0),16,true,0)
  else ((binP k a.1 c.1 a.2.1 a.2.2 c.2.1 c.2.2).1,rb k a.2.1 c.2.1,rs k a.2.1 a.2.2 c.2.1 c.2.2,(binP k a.1 c.1 a.2.1 a.2.2 c.2.1 c.2.2).2)
mutual
def cnE:Ex→Int × Int × Bool × Int
 | .mk k n b s _ kids =>
  if k=1 then (n,b,s,0)
  else if k=2∨k=3∨k=4 then (0,0,false,8)
  else if (cnEs kids).2≠0 then (0,0,false,(cnEs kids).2)
  else cnO k b s (cnEs kids).1
def cnEs:List Ex→List (Int × Int × Bool) × Int
 | []=>([],0)
 | x::xs=>if (cnE x).2.2.2≠0 then ([],(cnE x).2.2.2) else if (cnEs xs).2≠0 then ([],(cnEs xs).2) else (((cnE x).1,(cnE x).2.1,(cnE x).2.2.1)::(cnEs xs).1,0)
end
structure Nev where
 v:ByteArray→Option (Int × Bool × Bool)
 f:ByteArray→Option (Int × Bool × Nat)
structure Loc where
 m:ByteArray→Option (Int × Bool × Bool)
 op:List ByteArray
 fr:Int
def varC (E:Nev)(L:Loc)(nm:ByteArray):Option (Int × Bool × Bool) :=
 match L.m nm with
 | some (b,s,true)=>some (b,s,false)
 | _=>E.v nm
def askC (E:Nev)(L:Loc)(nm:ByteArray)(arr:Bool):(Int × Bool) × Int :=
 match varC E L nm with
 | none=>((0,false),7)
 | some (b,s,a)=>if a=arr then ((b,s),0) else ((0,false),9)
def told (r:(Int × Bool) × Int):(Int × Bool) × Int:=if r.2=0∧r.1=(0,false) then (r.1,9) else r
def tyO (k b:Int)(s:Bool):List (Int × Bool)→Int × Bool
 | []=>(b,s)
 | [t]=>if k=5 then (b,s) else if k=6∨k=7 then (pb t.1,ps t.1 t.2) else (16,true)
 | t::u::_=>if k=25∨k=26 then (16,true) else (rb k t.1 u.1,rs k t.1 t.2 u.1 u.2)
mutual
def tyE (E:Nev)(L:Loc):Ex→(Int × Bool) × Int
 | .mk k _ b s nm kids =>
  if k=4 then
   match E.f nm with
   | none=>((0,false),7)
   | some (fb,fs,m)=>if kids.length=m then (if (tyEs E L kids).2=0 then ((fb,fs),0) else ((0,false),(tyEs E L kids).2)) else ((0,false),5)
  else if (tyEs E L kids).2≠0 then ((0,false),(tyEs E L kids).2)
  else if k=2∨k=3 then askC E L nm (decide (k=3))
  else (tyO k b s (tyEs E L kids).1,0)
def tyEs (E:Nev)(L:Loc):List Ex→List (Int × Bool) × Int
 | []=>([],0)
 | x::xs=>if (told (tyE E L x)).2≠0 then ([],(told (tyE E L x)).2) else if (tyEs E L xs).2≠0 then ([],(tyEs E L xs).2) else ((told (tyE E L x)).1::(tyEs E L xs).1,0)
end
def tellC (E:Nev)(L:Loc)(x:Ex):Int:=(told (tyE E L x)).2
def declC (L:Loc)(b:Int)(s:Bool)(nm:ByteArray):Int × Loc :=
 if (L.m nm).isSome=true then (7,L) else (0,⟨fun j=>if j=nm then some (b,s,true) else L.m j,L.op++[nm],L.fr+wds b⟩)
def hideC (n:Nat)(L:Loc):Loc:=⟨fun j=>if (L.op.drop n).any (fun k=>decide (j=k))=true then some (0,false,false) else L.m j,L.op.take n,L.fr⟩
def hid (L:Loc)(r:Int × Loc):Int × Loc:=(r.1,hideC L.op.length r.2)
def perC (E:Nev)(L:Loc)(has:Bool)(x:Ex):Int:=if has=true then tellC E L x else 0
def setC (E:Nev)(L:Loc)(has:Bool)(nm:ByteArray)(i x:Ex):Int :=
 if perC E L has i≠0 then perC E L has i else if (askC E L nm has).2≠0 then (askC E L nm has).2 else tellC E L x
def thc (r:Int × Loc)(f:Loc→Int × Loc):Int × Loc:=if r.1≠0 then r else f r.2
mutual
def ckS (E:Nev)(res:Int × Bool):Sm→Nat→Loc→Int × Loc
 | .mk k b s nm has x i init step body els,lp,L =>
  if k=2 then thc (perC E L has x,L) fun L=>declC L b s nm
  else if k=3 then (setC E L has nm i x,L)
  else if k=4 then ((tyE E L x).2,L)
  else if k=8 then (if has=decide (res≠(0,false)) then perC E L has x else 9,L)
  else if k=9∨k=10 then (if lp=0 then 8 else 0,L)
  else if k=5 then thc (tellC E L x,L) fun L=>thc (hid L (ckL E res body lp L)) fun L=>hid L (ckL E res els lp L)
  else if k=6 then thc (tellC E L x,L) fun L=>hid L (ckL E res body (lp+1) L)
  else if k=7 then thc (hid L (ckL E res init lp L)) fun L=>thc (perC E L has x,L) fun L=>thc (hid L (ckL E res step lp L)) fun L=>hid L (ckL E res body (lp+1) L)
  else if k=11 then hid L (ckL E res body lp L)
  else (0,L)
def ckL (E:Nev)(res:Int × Bool):List Sm→Nat→Loc→Int × Loc
 | [],_,L=>(0,L)
 | x::xs,lp,L=>thc (ckS E res x lp L) fun L=>ckL E res xs lp L
end
def ckPs:List Pm→Loc→Int × Loc
 | [],L=>(0,L)
 | p::ps,L=>thc (declC L p.b p.s p.nm) fun L=>ckPs ps L
def ckF (E:Nev)(f:Fn8):Int :=
 if (ckPs f.params ⟨fun _=>none,[],0⟩).1≠0 then (ckPs f.params ⟨fun _=>none,[],0⟩).1
 else
  let r:=hid (ckPs f.params ⟨fun _=>none,[],0⟩).2 (ckL E (f.b,f.s) f.body 0 (ckPs f.params ⟨fun _=>none,[],0⟩).2)
  if r.1≠0 then r.1 else if 200<r.2.fr then 4 else 0
def Nev.taken (E:Nev)(nm:ByteArray):Bool:=(E.v nm).isSome || (E.f nm).isSome
def nPut:ByteArray:=⟨#[112,117,116]⟩
def nGet:ByteArray:=⟨#[103,101,116]⟩
def nMain:ByteArray:=⟨#[109,97,105,110]⟩
def ev0:Nev:=⟨fun _=>none,fun j=>if j=nGet then some (16,true,0) else if j=nPut then some (0,false,1) else none⟩
def Nev.addV (E:Nev)(g:Gb):Nev:=⟨fun j=>if j=g.nm then some (g.b,g.s,decide (0<g.size)) else E.v j,E.f⟩
def Nev.addF (E:Nev)(f:Fn8):Nev:=⟨E.v,fun j=>if j=f.nm then some (f.b,f.s,f.params.length) else E.f j⟩
def ckGs:List Gb→Nat→Nev→Int→(Int × Nat) × Nev × Int
 | [],i,E,n=>((0,i),E,n)
 | g::gs,i,E,n =>
  if E.taken g.nm=true then ((7,i),E,n)
  else if 8000<n+max 1 g.size*wds g.b then ((4,i),E,n)
  else if (cnEs g.init).2≠0 then (((cnEs g.init).2,i),E,n)
  else ckGs gs (i+1) (E.addV g) (n+max 1 g.size*wds g.b)
def ckNs:List Fn8→Nat→Nev→(Int × Nat) × Nev
 | [],i,E=>((0,i),E)
 | f::fs,i,E=>if E.taken f.nm=true then ((7,i),E) else ckNs fs (i+1) (E.addF f)
def ckFs (E:Nev):List Fn8→Nat→Int × Nat
 | [],i=>(0,i)
 | f::fs,i=>if ckF E f≠0 then (ckF E f,i) else ckFs E fs (i+1)
def ckP (p:Pg):Int × Nat :=
 if (lkP p).1≠0 then ((lkP p).1,0)
 else
  let g:=ckGs p.globals 0 ev0 0
  if g.1.1≠0 then g.1
  else
   let n:=ckNs p.funcs p.globals.length g.2.1
   if n.1.1≠0 then n.1
   else
    let f:=ckFs n.2 p.funcs p.globals.length
    if f.1≠0 then f
    else if (match n.2.f nMain with|some (_,_,m)=>decide (m=0)|none=>false)=true then (0,0)
    else (6,p.globals.length+p.funcs.length)
end Go.Proofs.YtjpnnmkefaodoaaGreat
