/-
  TyN, TyK, TyC, TyB, TyD, Ring, TyE, TyF, Big0.
-/
import Derived.Test.YtjpnnmkefaodoaaGreatyDivy
import Derived.MapKept
import Derived.BigRegion
import Derived.Deep.DeepCutAuto
import Derived.Deep.QuietTactic
import Derived.BigQuiet
import Derived.WalkSmall
import Derived.WalkKit
set_option maxHeartbeats 8000000
set_option maxRecDepth 100000
namespace Go.Proofs.YtjpnnmkefaodoaaGreat
open Go.RowKit
set_option linter.unusedSimpArgs false
set_option linter.unusedVariables false
def dgT (b:Int):Array UInt8:=if b=8 then #[56] else if b=16 then #[49,54] else if b=32 then #[51,50] else #[54,52]
def nmT (b:Int)(s:Bool):ByteArray:=(if s=true then ⟨#[105]⟩ else ⟨#[117]⟩)++⟨dgT b⟩
abbrev Tab:=List (ByteArray × Int × Bool)
def tab:Tab:=[(⟨#[105,56]⟩,8,true),(⟨#[117,56]⟩,8,false),(⟨#[105,49,54]⟩,16,true),(⟨#[117,49,54]⟩,16,false),(⟨#[105,51,50]⟩,32,true),(⟨#[117,51,50]⟩,32,false),(⟨#[105,54,52]⟩,64,true),(⟨#[117,54,52]⟩,64,false)]
def entL (l:Tab):List MapEntry:=l.zipIdx.map fun p=>⟨.string p.1.1,.agg #[.int .i64 p.1.2.1,.bool p.1.2.2],p.2⟩
def ent (n:Nat):Array MapEntry:=(entL (tab.take n)).toArray
def look:Tab→ByteArray→Option (Int × Bool)
 | [],_=>none
 | (k,b,g)::l,s=>if s==k then some (b,g) else look l s
theorem find_look (s:ByteArray):∀ (l:Tab) (j i:Nat),∃ m,Instr.findNow .string (.string s) ((l.zipIdx j).map fun p=>⟨.string p.1.1,.agg #[.int .i64 p.1.2.1,.bool p.1.2.2],p.2⟩) i=some ((look l s).map fun r=>(m,.agg #[.int .i64 r.1,.bool r.2]))
 | [],_,_=>⟨0,rfl⟩
 | (k,b,g)::l,j,i=>by
  rw[List.zipIdx_cons,List.map_cons]
  unfold Instr.findNow
  simp only[Instr.sameNow]
  by_cases h:(s==k)=true
  ·refine⟨i,?_⟩
   rw[h]
   simp[look,h]
  ·have h':(s==k)=false:=by simpa using h
   obtain⟨m,hm⟩:=find_look s l (j+1) (i+1)
   refine⟨m,?_⟩
   rw[h']
   simp only
   rw[hm]
   simp[look,h']
theorem alloc_set (w:World)(o o':Obj):{ w.alloc o with heap:=(w.alloc o).heap.setIfInBounds w.heap.size o' }=w.alloc o':=by
 unfold World.alloc
 simp[-World.alloc_eq]
 apply Array.ext
 ·simp
 ·intro i h1 h2
  have h3:i<(w.heap.push o).size:=by simpa using h2
  have h4:i<w.heap.size+1:=by simpa using h2
  rw[Array.getElem_setIfInBounds h3,Array.getElem_push,Array.getElem_push]
  by_cases e:w.heap.size=i
  ·subst e
   simp
  ·rw[if_neg e,dif_pos (by omega),dif_pos (by omega)]
theorem heapNew (u:World)(o:Obj):(u.alloc o).heap[u.heap.size]?=some o:=by
 unfold World.alloc
 simp[-World.alloc_eq]
theorem run_put (w:World)(n:Nat)(k:ByteArray)(b:Int)(g:Bool)(hn:ent (n+1)=(ent n).push ⟨.string k,.agg #[.int .i64 b,.bool g],n⟩)(hf:Instr.findNow .string (.string k) (ent n).toList 0=some none) :
  (Instr.mapUpdate 142 (.map (some w.heap.size)) (.string k) (.agg #[.int .i64 b,.bool g])).run Tryz.prog (w.alloc (.map (ent n) n))=.ok () (w.alloc (.map (ent (n+1)) (n+1))):=by
 have hb:(w.alloc (.map (ent n) n)).heap[w.heap.size]?=some (.map (ent n) n):=heapNew _ _
 unfold Instr.mapUpdate
 simp only[Sem.run_bind,run_underlying Tryz.underlying142,Result.andThen,Go.MapKept.run_getObj_map hb,Go.MapKept.run_checkKey Tryz.underlying9 (show Go.MapKept.IsKey .string (.string k) from trivial),Go.MapKept.run_findKey Tryz.underlying9 hf,Go.MapKept.run_setObj_map _ hb]
 rw[alloc_set,hn]
theorem byName_any (w:World):Calls Tryz.prog 79 #[] w fun e w'=>e=.returned (.map (some w.heap.size))∧w'=w.alloc (.map (ent 8) 8):=by
 have hmm:∀ w:World,(Instr.makeMap 142 none).run Tryz.prog w=.ok (.map (some w.heap.size)) (w.alloc (.map (ent 0) 0)):=fun w=>rfl
 have h0:=run_put w 0 ⟨#[105,56]⟩ 8 true (by kernel_rfl) (by kernel_rfl)
 have h1:=run_put w 1 ⟨#[117,56]⟩ 8 false (by kernel_rfl) (by kernel_rfl)
 have h2:=run_put w 2 ⟨#[105,49,54]⟩ 16 true (by kernel_rfl) (by kernel_rfl)
 have h3:=run_put w 3 ⟨#[117,49,54]⟩ 16 false (by kernel_rfl) (by kernel_rfl)
 have h4:=run_put w 4 ⟨#[105,51,50]⟩ 32 true (by kernel_rfl) (by kernel_rfl)
 have h5:=run_put w 5 ⟨#[117,51,50]⟩ 32 false (by kernel_rfl) (by kernel_rfl)
 have h6:=run_put w 6 ⟨#[105,54,52]⟩ 64 true (by kernel_rfl) (by kernel_rfl)
 have h7:=run_put w 7 ⟨#[117,54,52]⟩ 64 false (by kernel_rfl) (by kernel_rfl)
 simp only[Nat.reduceAdd] at h0 h1 h2 h3 h4 h5 h6 h7
 generalize ent 0=e0 at *
 generalize ent 1=e1 at *
 generalize ent 2=e2 at *
 generalize ent 3=e3 at *
 generalize ent 4=e4 at *
 generalize ent 5=e5 at *
 generalize ent 6=e6 at *
 generalize ent 7=e7 at *
 generalize ent 8=e8 at *
 go_enter Tryz.func79,Tryz.ntmps79
 go_wp2
 go_ret
 exact⟨rfl,rfl⟩
def nb (s:ByteArray):Int:=match look tab s with|some r=>r.1|none=>0
def ng (s:ByteArray):Bool:=match look tab s with|some r=>r.2|none=>false
def nk (s:ByteArray):Bool:=(look tab s).isSome
theorem zeroT (w:World):(zeroValue 34).run Tryz.prog w=.ok (.agg #[.int .i64 0,.bool false]) w:=by kernel_rfl
theorem run_look (w:World)(b:Nat)(s:ByteArray)(h:w.heap[b]?=some (.map (ent 8) 8)):(Instr.lookup 142 (.map (some b)) (.string s) true).run Tryz.prog w=.ok (.tuple #[.agg #[.int .i64 (nb s),.bool (ng s)],.bool (nk s)]) w:=by
 obtain⟨m,hm⟩:=find_look s tab 0 0
 have hf:Instr.findNow .string (.string s) (ent 8).toList 0=some ((look tab s).map fun r=>(m,.agg #[.int .i64 r.1,.bool r.2])):=hm
 unfold Instr.lookup
 simp only[Sem.run_bind,run_underlying Tryz.underlying142,Result.andThen,Go.MapKept.run_getObj_map h,Sem.run_pure,Go.MapKept.run_checkKey Tryz.underlying9 (show Go.MapKept.IsKey .string (.string s) from trivial),Go.MapKept.run_findKey Tryz.underlying9 hf]
 unfold nb ng nk
 cases look tab s with
 | none=>simp[zeroT,Result.andThen]
 | some r=>simp
theorem named_any (s:ByteArray)(w:World):Calls Tryz.prog 46 #[.string s] w fun e w'=>e=.returned (.tuple #[.agg #[.int .i64 (nb s),.bool (ng s)],.bool (nk s)])∧Below w.heap.size w w':=by
 have HL:Hid (∀ u:World,(Instr.lookup 142 (.map (some u.heap.size)) (.string s) true).run Tryz.prog (u.alloc (.map (ent 8) 8))=.ok (.tuple #[.agg #[.int .i64 (nb s),.bool (ng s)],.bool (nk s)]) (u.alloc (.map (ent 8) 8))):=fun u=>run_look _ _ s (heapNew _ _)
 generalize nb s=B at *
 generalize ng s=G at *
 generalize nk s=K at *
 go_enter Tryz.func46,Tryz.ntmps46
 go_wp2_with fail
 have hl:=uX HL (w.alloc (.cells #[.int .i64 0,.bool false] 34))
 have k1:=qaa w (.cells #[.int .i64 0,.bool false] 34)
 have k2:=qaa (w.alloc (.cells #[.int .i64 0,.bool false] 34)) (.map (ent 8) 8)
 refine (byName_any _).mono ?_
 rintro e w1 ⟨rfl,rfl⟩
 have R:=zX ((Box.new w #[.int .i64 0,.bool false] 34).step k2)
 have KB:=zX (bT k1 k2)
 clear k1 k2 HL
 simp only[World.size_alloc] at hl
 generalize (w.alloc (.cells #[.int .i64 0,.bool false] 34)).alloc (.map (ent 8) 8)=w2 at *
 have lw:=(uX R).1
 obtain⟨x0,x1⟩:=(uX R).at2
 have xf:=(uX R).2.2
 go_wp2_with fail
 obtain⟨p0,p1⟩:=(((uX R).put (.int .i64 B) (.bool G)).step (qaa _ (.cells #[.int .i64 B,.bool G] 34))).at2
 exact bodyPost_ret (v:=.tuple #[.agg #[.int .i64 B,.bool G],.bool K]) (by simp[results,Tryz.results46,go_sem,p0,p1]) rfl ⟨rfl,bT (zY (uX KB) (Nat.le_refl _) _ _) (qaa _ _)⟩
theorem qbw {b:Int}(h:IsW b)(s:Bool):nb (nmT b s)=b∧ng (nmT b s)=s∧nk (nmT b s)=true:=by
 rcases h with rfl|rfl|rfl|rfl <;> cases s <;> exact⟨by kernel_rfl,by kernel_rfl,by kernel_rfl⟩
theorem look_name {s:ByteArray}:∀ {l:Tab},(∀ p∈l,IsW p.2.1∧nmT p.2.1 p.2.2=p.1)→∀ r,look l s=some r→IsW r.1∧nmT r.1 r.2=s
 | [],_,r,h=>by cases h
 | (k,b,g)::l,hl,r,h=>by
  unfold look at h
  by_cases e:(s==k)=true
  ·rw[if_pos e] at h
   have e':s=k:=(Go.MapKept.bytes_beq s k).1 e
   have:=hl (k,b,g) (by simp)
   cases h
   exact⟨this.1,this.2.trans e'.symm⟩
  ·rw[if_neg e] at h
   exact look_name (fun p hp=>hl p (by simp[hp])) r h
theorem tab_ok:∀ p∈tab,IsW p.2.1∧nmT p.2.1 p.2.2=p.1:=by
 intro p hp
 simp only[tab,List.mem_cons,List.not_mem_nil,or_false] at hp
 rcases hp with rfl|rfl|rfl|rfl|rfl|rfl|rfl|rfl
 ·exact⟨.inl rfl,by kernel_rfl⟩
 ·exact⟨.inl rfl,by kernel_rfl⟩
 ·exact⟨.inr (.inl rfl),by kernel_rfl⟩
 ·exact⟨.inr (.inl rfl),by kernel_rfl⟩
 ·exact⟨.inr (.inr (.inl rfl)),by kernel_rfl⟩
 ·exact⟨.inr (.inr (.inl rfl)),by kernel_rfl⟩
 ·exact⟨.inr (.inr (.inr rfl)),by kernel_rfl⟩
 ·exact⟨.inr (.inr (.inr rfl)),by kernel_rfl⟩
theorem named_yes {s:ByteArray}(h:nk s=true):IsW (nb s)∧nmT (nb s) (ng s)=s:=by
 unfold nk at h
 unfold nb ng
 cases e:look tab s with
 | none=>rw[e] at h;cases h
 | some r=>exact look_name tab_ok r e
theorem tcut_any (x b:Int)(s:Bool)(w:World)(h:IsW b)(hx:U x):Calls Tryz.prog 123 #[.int .u64 x,.agg #[.int .i64 b,.bool s]] w fun e w'=>e=.returned (.int .u64 (cut b x))∧Below w.heap.size w w':=by
 go_enter Tryz.func123,Tryz.ntmps123
 go_wp2_with (go_at_call 152;refine (cut_any _ _ _ h hx).mono ?_;rintro e w' ⟨rfl,rfl⟩)
 go_ret
 exact⟨rfl,qaa _ _⟩
def conv (x a:Int)(s:Bool)(b:Int):Int:=cut b (mn s a x)
theorem qa5 (x a:Int)(s:Bool)(b:Int)(t:Bool)(w:World)(ha:IsW a)(hb:IsW b)(hx:U x):Calls Tryz.prog 85 #[.int .u64 x,.agg #[.int .i64 a,.bool s],.agg #[.int .i64 b,.bool t]] w fun e w'=>e=.returned (.int .u64 (conv x a s b))∧Below w.heap.size w w':=by
 cases s
 ·have e1:conv x a false b=cut b (cut a x):=rfl
  rw[e1]
  go_enter Tryz.func85,Tryz.ntmps85
  go_wp2_with fail
  refine zL (by kernel_rfl) (by kernel_rfl) ?_
  intro L hne lt hlc hlf hlm
  repeat (go_big_quiet_step ((go_at_call 123;exact zM hlm (tcut_any _ _ _ _ (by assumption) (by first|assumption|exact u_cut (by assumption) _)))))
  refine wpQuiet_nil ?_
  intro wq kq
  clear hlm hlf hlc lt hne L
  obtain⟨hqc,hqf⟩:=qad kq
  go_wp2_with fail
  go_ret
  exact⟨rfl,bT (qaa _ _) (bT (qaa _ _) kq)⟩
 ·have e1:conv x a true b=cut b (IntKind.u64.wrap (sgn a x)):=by rw[cut_wrap hb];rfl
  rw[e1]
  have HB:=zX (fun w=>tcut_any (IntKind.u64.wrap (sgn a x)) b t w hb (u_wrap _))
  go_enter Tryz.func85,Tryz.ntmps85
  go_wp2_with (first|(go_at_call 122;refine (signed_any _ _ _ ha hx).mono ?_;rintro e w' ⟨rfl,rfl⟩)|(go_at_call 123;refine (uX HB _).mono ?_;rintro e w1 ⟨rfl,k1⟩))
  go_ret
  exact⟨rfl,bT (qaa _ _) (bT (qaa _ _) k1)⟩
structure Tri (w wx:World)(a0 a1 b0 b1 c0 c1:Value):Prop where
 bel:Below w.heap.size w wx
 A:Box wx w.heap.size [a0,a1]
 B:Box wx (w.heap.size+1) [b0,b1]
 C:Box wx (w.heap.size+1+1) [c0,c1]
theorem Tri.new {w w1:World}{T:TypeId}{a0 a1 b0 b1 c0 c1:Value}(k:Below ((((w.alloc (.cells #[a0,a1] T)).alloc (.cells #[b0,b1] T)).alloc (.cells #[c0,c1] T)).drew).heap.size ((((w.alloc (.cells #[a0,a1] T)).alloc (.cells #[b0,b1] T)).alloc (.cells #[c0,c1] T)).drew) w1):Tri w w1 a0 a1 b0 b1 c0 c1:=by
 have h1:=qaa w (.cells #[a0,a1] T)
 have h2:=qaa (w.alloc (.cells #[a0,a1] T)) (.cells #[b0,b1] T)
 have h3:=qaa ((w.alloc (.cells #[a0,a1] T)).alloc (.cells #[b0,b1] T)) (.cells #[c0,c1] T)
 have h4:=bT (Below.refl _ _).drew k
 have A:=Box.new w #[a0,a1] T
 have B:=Box.new (w.alloc (.cells #[a0,a1] T)) #[b0,b1] T
 have C:=Box.new ((w.alloc (.cells #[a0,a1] T)).alloc (.cells #[b0,b1] T)) #[c0,c1] T
 simp only[World.size_alloc] at B C
 exact⟨bT h1 (bT h2 (bT h3 h4)),((A.step h2).step h3).step h4,(B.step h3).step h4,C.step h4⟩
theorem Tri.step {w w1 w2:World}{a0 a1 b0 b1 c0 c1:Value}(h:Tri w w1 a0 a1 b0 b1 c0 c1)(k:Below w1.heap.size w1 w2):Tri w w2 a0 a1 b0 b1 c0 c1:=⟨bT h.bel k,h.A.step k,h.B.step k,h.C.step k⟩
theorem Tri.putA {w w1:World}{a0 a1 b0 b1 c0 c1:Value}(h:Tri w w1 a0 a1 b0 b1 c0 c1)(u v:Value):Tri w ((w1.setCell ⟨w.heap.size,0,none⟩ u).setCell ⟨w.heap.size,1,none⟩ v) u v b0 b1 c0 c1 :=
 ⟨zY h.bel (Nat.le_refl _) _ _,h.A.put u v,(h.B.other (by omega)).other (by omega),(h.C.other (by omega)).other (by omega)⟩
theorem Tri.putB {w w1:World}{a0 a1 b0 b1 c0 c1:Value}(h:Tri w w1 a0 a1 b0 b1 c0 c1)(u v:Value):Tri w ((w1.setCell ⟨w.heap.size+1,0,none⟩ u).setCell ⟨w.heap.size+1,1,none⟩ v) a0 a1 u v c0 c1 :=
 ⟨zY h.bel (by omega) _ _,(h.A.other (by omega)).other (by omega),h.B.put u v,(h.C.other (by omega)).other (by omega)⟩
def cb (a b:Int):Int:=if pb a<pb b then pb b else pb a
def cs (a:Int)(s:Bool)(b:Int)(t:Bool):Bool:=if pb b<pb a then ps a s else if pb a<pb b then ps b t else ps a s&&ps b t
theorem common_any (a:Int)(s:Bool)(b:Int)(t:Bool)(w:World):Calls Tryz.prog 129 #[.agg #[.int .i64 a,.bool s],.agg #[.int .i64 b,.bool t]] w fun e w'=>e=.returned (.agg #[.int .i64 (cb a b),.bool (cs a s b t)])∧Below w.heap.size w w':=by
 have e1:Hid (cb a b=if pb a<pb b then pb b else pb a):=rfl
 have e2:Hid (cs a s b t=if pb b<pb a then ps a s else if pb a<pb b then ps b t else ps a s&&ps b t):=rfl
 have HA:=zX (qa6 a s)
 have HB:=zX (qa6 b t)
 generalize cb a b=X at *
 generalize cs a s b t=Y at *
 generalize pb a=A at *
 generalize pb b=B at *
 generalize ps a s=S at *
 generalize ps b t=T at *
 go_enter Tryz.func129,Tryz.ntmps129
 go_upto_region 1 with fail
 go_cut [5] (fun _ wx=>Tri w wx (.int .i64 A) (.bool S) (.int .i64 B) (.bool T) (.int .i64 0) (.bool false))
 case first =>
  go_region_with (first|(go_at_call 124;have R:=R1;refine (uX HB _).mono ?_;rintro e w2 ⟨rfl,k2⟩;have R2:=zX ((uX R).step k2);clear k2 R;obtain⟨y0,y1⟩:=(uX R2).A.at2;obtain⟨y2,y3⟩:=(uX R2).B.at2;have f2:=(uX R2).A.2.2;have f3:=(uX R2).B.2.2)|(go_at_call 124;refine (uX HA _).mono ?_;rintro e w1 ⟨rfl,k1⟩;have R1:=zX (Tri.new k1);clear k1;obtain⟨x0,x1⟩:=(uX R1).A.at2;obtain⟨x2,x3⟩:=(uX R1).B.at2;have f0:=(uX R1).A.2.2;have f1:=(uX R1).B.2.2))
  all_goals (go_wp2_with fail;go_meet;exact ((uX R2).putA _ _).putB _ _)
 case rest =>
  have M:=zX hcut
  clear hcut
  obtain⟨x0,x1⟩:=(uX M).A.at2
  obtain⟨x2,x3⟩:=(uX M).B.at2
  obtain⟨x4,x5⟩:=(uX M).C.at2
  have f0:=(uX M).A.2.2
  have f1:=(uX M).B.2.2
  have f2:=(uX M).C.2.2
  have p0:=(uX M).C.put0
  have p1:=(uX M).C.put1
  have hb:=(uX M).bel
  by_cases h1:B<A
  ·have d1:decide (B<A)=true:=by simpa using h1
   unfold Hid at e1 e2
   rw[if_neg (by omega)] at e1
   rw[if_pos h1] at e2
   subst e1 e2
   go_wp2_with fail
   exact bodyPost_ret (v:=.agg #[.int .i64 X,.bool Y]) (by simp[results,Tryz.results129,go_sem,p0,p1]) rfl ⟨rfl,zY hb (by omega) _ _⟩
  ·have d1:decide (B<A)=false:=by simpa using h1
   unfold Hid at e1 e2
   rw[if_neg h1] at e2
   by_cases h2:A<B
   ·have d2:decide (A<B)=true:=by simpa using h2
    rw[if_pos h2] at e1 e2
    subst e1 e2
    go_wp2_with fail
    exact bodyPost_ret (v:=.agg #[.int .i64 X,.bool Y]) (by simp[results,Tryz.results129,go_sem,p0,p1]) rfl ⟨rfl,zY hb (by omega) _ _⟩
   ·have d2:decide (A<B)=false:=by simpa using h2
    rw[if_neg h2] at e1 e2
    subst e1
    cases S
    ·simp at e2
     subst e2
     go_wp2_with fail
     exact bodyPost_ret (v:=.agg #[.int .i64 X,.bool false]) (by simp[results,Tryz.results129,go_sem,p0,p1]) rfl ⟨rfl,zY hb (by omega) _ _⟩
    ·simp at e2
     subst e2
     go_wp2_with fail
     exact bodyPost_ret (v:=.agg #[.int .i64 X,.bool Y]) (by simp[results,Tryz.results129,go_sem,p0,p1]) rfl ⟨rfl,zY hb (by omega) _ _⟩
def shB (k:Int):Bool:=k==14 || k==15
theorem shifts_any (k:Int)(w:World):Calls Tryz.prog 127 #[.int .i64 k] w fun e w'=>e=.returned (.bool (shB k))∧w'=w:=by
 by_cases h:k=14
 ·subst h
  have e1:shB 14=true:=by decide
  rw[e1]
  go_enter Tryz.func127,Tryz.ntmps127
  go_wp2
  go_ret
  exact⟨rfl,rfl⟩
 ·have h0:(k==14)=false:=zBq h
  have e1:shB k=(k==15):=by unfold shB;rw[h0];rfl
  rw[e1]
  go_enter Tryz.func127,Tryz.ntmps127
  go_wp2
  go_ret
  exact⟨rfl,rfl⟩
def cpB (k:Int):Bool:=decide (16≤k)&&decide (k≤21)
theorem compares_any (k:Int)(w:World):Calls Tryz.prog 130 #[.int .i64 k] w fun e w'=>e=.returned (.bool (cpB k))∧w'=w:=by
 by_cases h:16≤k
 ·have h0:decide (16≤k)=true:=by simpa using h
  have e1:cpB k=decide (k≤21):=by unfold cpB;rw[h0];rfl
  rw[e1]
  go_enter Tryz.func130,Tryz.ntmps130
  go_wp2
  go_ret
  exact⟨rfl,rfl⟩
 ·have h0:decide (16≤k)=false:=by simpa using h
  have e1:cpB k=false:=by unfold cpB;rw[h0];rfl
  rw[e1]
  go_enter Tryz.func130,Tryz.ntmps130
  go_wp2
  go_ret
  exact⟨rfl,rfl⟩
def b1 (b:Bool):Int:=if b=true then 1 else 0
theorem oneIf_any (b:Bool)(w:World):Calls Tryz.prog 125 #[.bool b] w fun e w'=>e=.returned (.int .u64 (b1 b))∧w'=w:=by
 cases b <;> simp only[b1]
 ·go_enter Tryz.func125,Tryz.ntmps125
  go_wp2
  go_ret
  exact⟨rfl,rfl⟩
 ·go_enter Tryz.func125,Tryz.ntmps125
  go_wp2
  go_ret
  exact⟨rfl,rfl⟩
def ls (s:Bool)(n a b:Int):Bool:=decide (mn s n a<mn s n b)
theorem tless_any (a b n:Int)(s:Bool)(w:World)(h:IsW n)(ha:U a)(hb:U b):Calls Tryz.prog 155 #[.int .u64 a,.int .u64 b,.agg #[.int .i64 n,.bool s]] w fun e w'=>e=.returned (.bool (ls s n a b))∧Below w.heap.size w w':=by
 have HL:Hid (∀ w,Calls Tryz.prog 175 #[.int .u64 a,.int .u64 b,.int .i64 n,.bool s] w fun e w'=>e=.returned (.tuple #[.bool (ls s n a b),.int .i64 0])∧w'=w):=by
  intro w
  cases s
  ·exact less_u a b n w h ha hb
  ·exact less_s a b n w h ha hb
 generalize ls s n a b=R at *
 go_enter Tryz.func155,Tryz.ntmps155
 go_wp2_with (go_at_call 175;refine (uX HL _).mono ?_;rintro e w' ⟨rfl,rfl⟩)
 go_ret
 exact⟨rfl,qaa _ _⟩
def hld (k:Int)(s:Bool)(n a b:Int):Bool:=if k=16 then ls s n a b else if k=17 then !ls s n b a else if k=18 then ls s n b a else if k=19 then !ls s n a b else if k=20 then a==b else !(a==b)
theorem holds_any (k a b n:Int)(s:Bool)(w:World)(hk:16≤k∧k≤21)(h:IsW n)(ha:U a)(hb:U b):Calls Tryz.prog 131 #[.int .i64 k,.int .u64 a,.int .u64 b,.agg #[.int .i64 n,.bool s]] w fun e w'=>e=.returned (.bool (hld k s n a b))∧Below w.heap.size w w':=by
 have HA:=zX (fun w=>tless_any a b n s w h ha hb)
 have HB:=zX (fun w=>tless_any b a n s w h hb ha)
 have c:k=16∨k=17∨k=18∨k=19∨k=20∨k=21:=by omega
 rcases c with rfl|rfl|rfl|rfl|rfl|rfl
 ·have e1:hld 16 s n a b=ls s n a b:=rfl
  rw[e1]
  generalize ls s n a b=R at *
  go_enter Tryz.func131,Tryz.ntmps131
  go_wp2_with (go_at_call 155;refine (uX HA _).mono ?_;rintro e w1 ⟨rfl,k1⟩)
  go_ret
  exact⟨rfl,bT (qaa _ _) k1⟩
 ·have e1:hld 17 s n a b=!ls s n b a:=rfl
  rw[e1]
  generalize ls s n b a=R at *
  go_enter Tryz.func131,Tryz.ntmps131
  go_wp2_with (go_at_call 155;refine (uX HB _).mono ?_;rintro e w1 ⟨rfl,k1⟩)
  go_ret
  exact⟨rfl,bT (qaa _ _) k1⟩
 ·have e1:hld 18 s n a b=ls s n b a:=rfl
  rw[e1]
  generalize ls s n b a=R at *
  go_enter Tryz.func131,Tryz.ntmps131
  go_wp2_with (go_at_call 155;refine (uX HB _).mono ?_;rintro e w1 ⟨rfl,k1⟩)
  go_ret
  exact⟨rfl,bT (qaa _ _) k1⟩
 ·have e1:hld 19 s n a b=!ls s n a b:=rfl
  rw[e1]
  generalize ls s n a b=R at *
  go_enter Tryz.func131,Tryz.ntmps131
  go_wp2_with (go_at_call 155;refine (uX HA _).mono ?_;rintro e w1 ⟨rfl,k1⟩)
  go_ret
  exact⟨rfl,bT (qaa _ _) k1⟩
 ·have e1:hld 20 s n a b=(a==b):=rfl
  rw[e1]
  go_enter Tryz.func131,Tryz.ntmps131
  go_wp2
  go_ret
  exact⟨rfl,qaa _ _⟩
 ·have e1:hld 21 s n a b=!(a==b):=rfl
  rw[e1]
  go_enter Tryz.func131,Tryz.ntmps131
  go_wp2
  go_ret
  exact⟨rfl,qaa _ _⟩
theorem bel_of {w:World}{a b c:Obj}{q:Nat}:Below w.heap.size w ((((w.alloc a).alloc b).alloc c).drewN q) :=
 below_drewN ((((Below.refl _ _).alloc (Nat.le_refl _) _).alloc (by simp) _).alloc (by simp;omega) _) q
theorem add1 (x y:Int)(w:World):Calls Tryz.prog 181 #[.int .u64 x,.int .u64 y] w fun e w'=>e=.returned (.int .u64 (IntKind.u64.wrap (x+y)))∧w'=w:=by
 go_enter Tryz.func181,Tryz.ntmps181
 go_wp2
 go_ret
 exact⟨rfl,rfl⟩
theorem of2_add (x b n:Int)(w:World)(p1 p2 p3:Nat)(h:IsW n)(hb:U b)
  (c1:w.cell? ⟨p1,0,none⟩=some (.func (.func 181) #[] #[])) (c2:w.cell? ⟨p2,0,none⟩=some (.int .u64 b)) (c3:w.cell? ⟨p3,0,none⟩=some (.int .i64 n)) :
  Calls Tryz.prog 185 #[.int .u64 x,.pointer (some ⟨p1,0,none⟩),.pointer (some ⟨p2,0,none⟩),.pointer (some ⟨p3,0,none⟩)] w fun e w'=>e=.returned (.int .u64 (IntKind.u64.wrap (x+cut n b)))∧∃ q,w'=w.drewN q:=by
 go_enter Tryz.func185,Tryz.ntmps185
 go_wp2_with fail
 go_quiet (first|(go_at_call 184;exact Calls.quiet_of_same (qag _ _ _ h hb))|(go_at_call 181;exact Calls.quiet_of_same (add1 _ _ _)))
 go_wp2
 go_ret
 exact⟨rfl,_,rfl⟩
theorem add_num {n:Int}(h:IsW n)(a b:Int):cut n (IntKind.u64.wrap (cut n a+cut n b))=cut n (a+b):=by
 rw[cut_wrap h,cut_add]
theorem add_any (a b n:Int)(w:World)(h:IsW n)(ha:U a)(hb:U b):Calls Tryz.prog 159 #[.int .u64 a,.int .u64 b,.int .i64 n] w fun e w'=>e=.returned (.tuple #[.int .u64 (cut n (a+b)),.int .i64 0])∧Below w.heap.size w w':=by
 have hn:=add_num h a b
 go_enter Tryz.func159,Tryz.ntmps159
 go_wp2_with (first|(go_at_call 120;refine (qax _ h _).mono ?_;rintro e w' ⟨rfl,rfl⟩)|(go_at_call 184;refine (qag _ _ _ h ?_).mono ?_;(first|exact ha|exact u_wrap _);rintro e w' ⟨rfl,rfl⟩)|(go_at_call 185;refine (of2_add _ _ _ _ _ _ _ h hb ?_ ?_ ?_).mono ?_;(simp[go_sem]);(simp[go_sem]);(simp[go_sem]);rintro e w' ⟨rfl,q,rfl⟩)|go_in)
 go_ret2
 exact⟨rfl,bel_of⟩
theorem sub1 (x y:Int)(w:World):Calls Tryz.prog 182 #[.int .u64 x,.int .u64 y] w fun e w'=>e=.returned (.int .u64 (IntKind.u64.wrap (x - y)))∧w'=w:=by
 go_enter Tryz.func182,Tryz.ntmps182
 go_wp2
 go_ret
 exact⟨rfl,rfl⟩
theorem of2_sub (x b n:Int)(w:World)(p1 p2 p3:Nat)(h:IsW n)(hb:U b)
  (c1:w.cell? ⟨p1,0,none⟩=some (.func (.func 182) #[] #[])) (c2:w.cell? ⟨p2,0,none⟩=some (.int .u64 b)) (c3:w.cell? ⟨p3,0,none⟩=some (.int .i64 n)) :
  Calls Tryz.prog 185 #[.int .u64 x,.pointer (some ⟨p1,0,none⟩),.pointer (some ⟨p2,0,none⟩),.pointer (some ⟨p3,0,none⟩)] w fun e w'=>e=.returned (.int .u64 (IntKind.u64.wrap (x - cut n b)))∧∃ q,w'=w.drewN q:=by
 go_enter Tryz.func185,Tryz.ntmps185
 go_wp2_with fail
 go_quiet (first|(go_at_call 184;exact Calls.quiet_of_same (qag _ _ _ h hb))|(go_at_call 182;exact Calls.quiet_of_same (sub1 _ _ _)))
 go_wp2
 go_ret
 exact⟨rfl,_,rfl⟩
theorem sub_num {n:Int}(h:IsW n)(a b:Int):cut n (IntKind.u64.wrap (cut n a - cut n b))=cut n (a - b):=by
 rw[cut_wrap h,cut_sub]
theorem sub_any (a b n:Int)(w:World)(h:IsW n)(ha:U a)(hb:U b):Calls Tryz.prog 160 #[.int .u64 a,.int .u64 b,.int .i64 n] w fun e w'=>e=.returned (.tuple #[.int .u64 (cut n (a - b)),.int .i64 0])∧Below w.heap.size w w':=by
 have hn:=sub_num h a b
 go_enter Tryz.func160,Tryz.ntmps160
 go_wp2_with (first|(go_at_call 120;refine (qax _ h _).mono ?_;rintro e w' ⟨rfl,rfl⟩)|(go_at_call 184;refine (qag _ _ _ h ?_).mono ?_;(first|exact ha|exact u_wrap _);rintro e w' ⟨rfl,rfl⟩)|(go_at_call 185;refine (of2_sub _ _ _ _ _ _ _ h hb ?_ ?_ ?_).mono ?_;(simp[go_sem]);(simp[go_sem]);(simp[go_sem]);rintro e w' ⟨rfl,q,rfl⟩)|go_in)
 go_ret2
 exact⟨rfl,bel_of⟩
theorem mul1 (x y:Int)(w:World):Calls Tryz.prog 177 #[.int .u64 x,.int .u64 y] w fun e w'=>e=.returned (.int .u64 (IntKind.u64.wrap (x*y)))∧w'=w:=by
 go_enter Tryz.func177,Tryz.ntmps177
 go_wp2
 go_ret
 exact⟨rfl,rfl⟩
theorem of2_mul (x b n:Int)(w:World)(p1 p2 p3:Nat)(h:IsW n)(hb:U b)
  (c1:w.cell? ⟨p1,0,none⟩=some (.func (.func 177) #[] #[])) (c2:w.cell? ⟨p2,0,none⟩=some (.int .u64 b)) (c3:w.cell? ⟨p3,0,none⟩=some (.int .i64 n)) :
  Calls Tryz.prog 185 #[.int .u64 x,.pointer (some ⟨p1,0,none⟩),.pointer (some ⟨p2,0,none⟩),.pointer (some ⟨p3,0,none⟩)] w fun e w'=>e=.returned (.int .u64 (IntKind.u64.wrap (x*cut n b)))∧∃ q,w'=w.drewN q:=by
 go_enter Tryz.func185,Tryz.ntmps185
 go_wp2_with fail
 go_quiet (first|(go_at_call 184;exact Calls.quiet_of_same (qag _ _ _ h hb))|(go_at_call 177;exact Calls.quiet_of_same (mul1 _ _ _)))
 go_wp2
 go_ret
 exact⟨rfl,_,rfl⟩
theorem mul_num {n:Int}(h:IsW n)(a b:Int):cut n (IntKind.u64.wrap (cut n a*cut n b))=cut n (a*b):=by
 rw[cut_wrap h,cut_mul]
theorem mul_any (a b n:Int)(w:World)(h:IsW n)(ha:U a)(hb:U b):Calls Tryz.prog 156 #[.int .u64 a,.int .u64 b,.int .i64 n] w fun e w'=>e=.returned (.tuple #[.int .u64 (cut n (a*b)),.int .i64 0])∧Below w.heap.size w w':=by
 have hn:=mul_num h a b
 go_enter Tryz.func156,Tryz.ntmps156
 go_wp2_with (first|(go_at_call 120;refine (qax _ h _).mono ?_;rintro e w' ⟨rfl,rfl⟩)|(go_at_call 184;refine (qag _ _ _ h ?_).mono ?_;(first|exact ha|exact u_wrap _);rintro e w' ⟨rfl,rfl⟩)|(go_at_call 185;refine (of2_mul _ _ _ _ _ _ _ h hb ?_ ?_ ?_).mono ?_;(simp[go_sem]);(simp[go_sem]);(simp[go_sem]);rintro e w' ⟨rfl,q,rfl⟩)|go_in)
 go_ret2
 exact⟨rfl,bel_of⟩
def shf (k:Int)(s:Bool)(n a m:Int):Int:=if k=14 then cut n (a*2 ^ min m.toNat 64) else cut n (mn s n a / 2 ^ min m.toNat 64)
theorem shifted_any (k a m n:Int)(s:Bool)(w:World)(hk:k=14∨k=15)(h:IsW n)(ha:U a)(hm:U m):Calls Tryz.prog 128 #[.int .i64 k,.int .u64 a,.int .u64 m,.agg #[.int .i64 n,.bool s]] w fun e w'=>e=.returned (.tuple #[.int .u64 (shf k s n a m),.int .i64 0])∧Below w.heap.size w w':=by
 rcases hk with rfl|rfl
 ·have HL:=zX (fun w=>shl_any a m n w h ha hm)
  have e1:shf 14 s n a m=cut n (a*2 ^ min m.toNat 64):=rfl
  rw[e1]
  generalize cut n (a*2 ^ min m.toNat 64)=R at *
  go_enter Tryz.func128,Tryz.ntmps128
  go_wp2_with (go_at_call 153;refine (uX HL _).mono ?_;rintro e w1 ⟨rfl,k1⟩)
  go_ret2
  exact⟨rfl,bT (qaa _ _) k1⟩
 ·have HL:Hid (∀ w,Calls Tryz.prog 154 #[.int .u64 a,.int .u64 m,.int .i64 n,.bool s] w fun e w'=>e=.returned (.tuple #[.int .u64 (shf 15 s n a m),.int .i64 0])∧Below w.heap.size w w'):=by
   intro w
   cases s
   ·have e1:shf 15 false n a m=cut n a / 2 ^ min m.toNat 64:=cut_div h a _
    rw[e1]
    exact shr_u a m n w h ha hm
   ·exact shr_s a m n w h ha hm
  generalize shf 15 s n a m=R at *
  go_enter Tryz.func128,Tryz.ntmps128
  go_wp2_with (go_at_call 154;refine (uX HL _).mono ?_;rintro e w1 ⟨rfl,k1⟩)
  go_ret2
  exact⟨rfl,bT (qaa _ _) k1⟩
def wrk (k:Int)(s:Bool)(n a b:Int):Int × Int :=
 if k=9 then (cut n (a*b),0) else if k=10 then (if cut n b=0 then (0,10) else (cut n ((mn s n a).tdiv (mn s n b)),0)) else if k=11 then (if cut n b=0 then (0,10) else (cut n ((mn s n a).tmod (mn s n b)),0))
 else if k=12 then (cut n (a+b),0) else if k=13 then (cut n (a - b),0) else if k=22 then (bits .and .u64 a b,0) else if k=23 then (bits .xor .u64 a b,0) else (bits .or .u64 a b,0)
def wkB (k:Int):Prop:=k=9∨k=10∨k=11∨k=12∨k=13∨k=22∨k=23∨k=24
theorem worked_any (k a b n:Int)(s:Bool)(w:World)(hk:wkB k)(h:IsW n)(ha:U a)(hb:U b):Calls Tryz.prog 132 #[.int .i64 k,.int .u64 a,.int .u64 b,.agg #[.int .i64 n,.bool s]] w fun e w'=>e=.returned (.tuple #[.int .u64 (wrk k s n a b).1,.int .i64 (wrk k s n a b).2])∧Below w.heap.size w w':=by
 rcases hk with rfl|rfl|rfl|rfl|rfl|rfl|rfl|rfl
 ·have HL:=zX (fun w=>mul_any a b n w h ha hb)
  have e1:wrk 9 s n a b=(cut n (a*b),0):=rfl
  rw[e1]
  generalize cut n (a*b)=R at *
  go_enter Tryz.func132,Tryz.ntmps132
  go_wp2_with (go_at_call 156;refine (uX HL _).mono ?_;rintro e w1 ⟨rfl,k1⟩)
  go_ret2
  exact⟨rfl,bT (qaa _ _) k1⟩
 ·have HL:Hid (∀ w,Calls Tryz.prog 157 #[.int .u64 a,.int .u64 b,.int .i64 n,.bool s] w fun e w'=>e=.returned (.tuple #[.int .u64 (wrk 10 s n a b).1,.int .i64 (wrk 10 s n a b).2])∧Below w.heap.size w w'):=by
   intro w
   by_cases hz:cut n b=0
   ·have e1:wrk 10 s n a b=(0,10):=by simp[wrk,hz]
    rw[e1]
    exact div_zero a b n s w h hb hz
   ·cases s
    ·have e1:wrk 10 false n a b=(cut n a / cut n b,0):=by
      have p:=cut_lo h b
      have q:=cut_lo h a
      simp only[wrk,hz,mn]
      simp
      rw[Int.tdiv_eq_ediv_of_nonneg q]
      exact divu_num h a b (by omega)
     rw[e1]
     exact div_u a b n w h ha hb hz
    ·have e1:wrk 10 true n a b=(cut n ((sgn n a).tdiv (sgn n b)),0):=by simp[wrk,hz,mn]
     rw[e1]
     exact div_s a b n w h ha hb hz
  generalize (wrk 10 s n a b).1=R at *
  generalize (wrk 10 s n a b).2=E at *
  go_enter Tryz.func132,Tryz.ntmps132
  go_wp2_with (go_at_call 157;refine (uX HL _).mono ?_;rintro e w1 ⟨rfl,k1⟩)
  go_ret2
  exact⟨rfl,bT (qaa _ _) k1⟩
 ·have HL:Hid (∀ w,Calls Tryz.prog 158 #[.int .u64 a,.int .u64 b,.int .i64 n,.bool s] w fun e w'=>e=.returned (.tuple #[.int .u64 (wrk 11 s n a b).1,.int .i64 (wrk 11 s n a b).2])∧Below w.heap.size w w'):=by
   intro w
   by_cases hz:cut n b=0
   ·have e1:wrk 11 s n a b=(0,10):=by simp[wrk,hz]
    rw[e1]
    exact rem_zero a b n s w h hb hz
   ·cases s
    ·have e1:wrk 11 false n a b=(cut n a % cut n b,0):=by
      have p:=cut_lo h b
      have q:=cut_lo h a
      simp only[wrk,hz,mn]
      simp
      rw[Int.tmod_eq_emod_of_nonneg q]
      exact remu_num h a b (by omega)
     rw[e1]
     exact rem_u a b n w h ha hb hz
    ·have e1:wrk 11 true n a b=(cut n ((sgn n a).tmod (sgn n b)),0):=by simp[wrk,hz,mn]
     rw[e1]
     exact rem_s a b n w h ha hb hz
  generalize (wrk 11 s n a b).1=R at *
  generalize (wrk 11 s n a b).2=E at *
  go_enter Tryz.func132,Tryz.ntmps132
  go_wp2_with (go_at_call 158;refine (uX HL _).mono ?_;rintro e w1 ⟨rfl,k1⟩)
  go_ret2
  exact⟨rfl,bT (qaa _ _) k1⟩
 ·have HL:=zX (fun w=>add_any a b n w h ha hb)
  have e1:wrk 12 s n a b=(cut n (a+b),0):=rfl
  rw[e1]
  generalize cut n (a+b)=R at *
  go_enter Tryz.func132,Tryz.ntmps132
  go_wp2_with (go_at_call 159;refine (uX HL _).mono ?_;rintro e w1 ⟨rfl,k1⟩)
  go_ret2
  exact⟨rfl,bT (qaa _ _) k1⟩
 ·have HL:=zX (fun w=>sub_any a b n w h ha hb)
  have e1:wrk 13 s n a b=(cut n (a - b),0):=rfl
  rw[e1]
  generalize cut n (a - b)=R at *
  go_enter Tryz.func132,Tryz.ntmps132
  go_wp2_with (go_at_call 160;refine (uX HL _).mono ?_;rintro e w1 ⟨rfl,k1⟩)
  go_ret2
  exact⟨rfl,bT (qaa _ _) k1⟩
 ·have e1:wrk 22 s n a b=(bits .and .u64 a b,0):=rfl
  rw[e1]
  go_enter Tryz.func132,Tryz.ntmps132
  go_wp2
  go_ret2
  exact⟨rfl,qaa _ _⟩
 ·have e1:wrk 23 s n a b=(bits .xor .u64 a b,0):=rfl
  rw[e1]
  go_enter Tryz.func132,Tryz.ntmps132
  go_wp2
  go_ret2
  exact⟨rfl,qaa _ _⟩
 ·have e1:wrk 24 s n a b=(bits .or .u64 a b,0):=rfl
  rw[e1]
  go_enter Tryz.func132,Tryz.ntmps132
  go_wp2
  go_ret2
  exact⟨rfl,qaa _ _⟩
theorem isW_p {b:Int}(h:IsW b):IsW (pb b):=by
 unfold pb
 split
 ·exact .inr (.inl rfl)
 ·exact h
theorem isW_c {a b:Int}(ha:IsW a)(hb:IsW b):IsW (cb a b):=by
 unfold cb
 split
 ·exact isW_p hb
 ·exact isW_p ha
theorem qas {x a b:Int}{s:Bool}(h:IsW b):U (conv x a s b):=u_cut h _
structure Duo (w wx:World)(a0 a1 b0 b1:Value):Prop where
 bel:Below w.heap.size w wx
 A:Box wx w.heap.size [a0,a1]
 B:Box wx (w.heap.size+1) [b0,b1]
theorem Duo.new {w w1:World}{T:TypeId}{a0 a1 b0 b1:Value}(k:Below ((w.alloc (.cells #[a0,a1] T)).alloc (.cells #[b0,b1] T)).heap.size ((w.alloc (.cells #[a0,a1] T)).alloc (.cells #[b0,b1] T)) w1):Duo w w1 a0 a1 b0 b1:=by
 have h1:=qaa w (.cells #[a0,a1] T)
 have h2:=qaa (w.alloc (.cells #[a0,a1] T)) (.cells #[b0,b1] T)
 have A:=Box.new w #[a0,a1] T
 have B:=Box.new (w.alloc (.cells #[a0,a1] T)) #[b0,b1] T
 simp only[World.size_alloc] at B
 exact⟨bT h1 (bT h2 k),(A.step h2).step k,B.step k⟩
theorem Duo.step {w w1 w2:World}{a0 a1 b0 b1:Value}(h:Duo w w1 a0 a1 b0 b1)(k:Below w1.heap.size w1 w2):Duo w w2 a0 a1 b0 b1:=⟨bT h.bel k,h.A.step k,h.B.step k⟩
def vl:List Int→Int
 | []=>0
 | x::r=>x+4294967296*vl r
def Wds (L:List Int):Prop:=∀ x∈L,0≤x∧x≤4294967295
def Norm (L:List Int):Prop:=∀ i,L.length=i+1→L.getD i 0≠0
theorem bp_pos (k:Nat):(0:Int)<4294967296 ^ k:=Int.pow_pos (by decide)
theorem vl_app:∀ (L M:List Int),vl (L++M)=vl L+4294967296 ^ L.length*vl M
 | [],M=>by simp[vl]
 | x::r,M=>by
  simp only[List.cons_append,vl,vl_app r M,List.length_cons]
  grind
theorem vl_snoc (L:List Int)(x:Int):vl (L++[x])=vl L+4294967296 ^ L.length*x:=by
 rw[vl_app];simp[vl]
theorem vl_lo:∀ {L:List Int},Wds L→0≤vl L
 | [],_=>by simp[vl]
 | x::r,h=>by
  have h1:=h x (by simp)
  have h2:=vl_lo (L:=r) (fun y hy=>h y (by simp[hy]))
  simp only[vl];omega
theorem vl_hi:∀ {L:List Int},Wds L→vl L<4294967296 ^ L.length
 | [],_=>by simp[vl]
 | x::r,h=>by
  have h1:=h x (by simp)
  have h2:=vl_hi (L:=r) (fun y hy=>h y (by simp[hy]))
  simp only[vl,List.length_cons,Int.pow_succ];omega
theorem vl_take (L:List Int):∀ i,vl (L.take (i+1))=vl (L.take i)+4294967296 ^ i*L.getD i 0:=by
 induction L with
 | nil=>intro i;simp[vl]
 | cons x r ih =>
  intro i
  cases i with
  | zero=>simp[vl]
  | succ i =>
   have:=ih i
   simp only[List.take_succ_cons,vl,List.getD_cons_succ,Int.pow_succ,this]
   grind
theorem vl_set:∀ (L:List Int) (k:Nat) (x:Int),k<L.length→vl (L.set k x)=vl L+4294967296 ^ k*(x - L.getD k 0)
 | [],k,x,h=>by simp at h
 | y::r,0,x,_=>by simp[vl];omega
 | y::r,k+1,x,h=>by
  have:=vl_set r k x (by simpa using h)
  simp only[List.set_cons_succ,vl,List.getD_cons_succ,Int.pow_succ,this]
  grind
theorem vl_zero:∀ (L:List Int),(∀ j,L.getD j 0=0)→vl L=0
 | [],_=>rfl
 | x::r,h=>by
  have h0:=h 0
  have:=vl_zero r (fun j=>h (j+1))
  simp at h0
  simp only[vl,h0,this];omega
theorem vl_rep (n:Nat):vl (List.replicate n 0)=0:=by
 refine vl_zero _ fun j=>?_
 rw[List.getD_eq_getElem?_getD,List.getElem?_replicate]
 split <;> rfl
theorem wds_rep (n:Nat):Wds (List.replicate n 0):=fun x hx=>by
 have:=List.eq_of_mem_replicate hx
 omega
theorem Wds.set {L:List Int}(h:Wds L)(k:Nat){x:Int}(hx:0≤x∧x≤4294967295):Wds (L.set k x):=fun y hy=>by
 rcases List.mem_or_eq_of_mem_set hy with h1|h1
 ·exact h y h1
 ·rw[h1];exact hx
theorem Wds.take {L:List Int}(h:Wds L)(k:Nat):Wds (L.take k):=fun y hy=>h y (List.mem_of_mem_take hy)
theorem Wds.drop {L:List Int}(h:Wds L)(k:Nat):Wds (L.drop k):=fun y hy=>h y (List.mem_of_mem_drop hy)
theorem Wds.app {L M:List Int}(h:Wds L)(k:Wds M):Wds (L++M):=fun y hy=>by
 rcases List.mem_append.1 hy with h1|h1
 ·exact h y h1
 ·exact k y h1
theorem Wds.get {L:List Int}(h:Wds L)(j:Nat):0≤L.getD j 0∧L.getD j 0≤4294967295:=by
 rw[List.getD_eq_getElem?_getD]
 cases e:L[j]? with
 | none=>simp
 | some x=>exact h x (List.mem_of_getElem? e)
theorem qal {L:List Int}{k j:Nat}{x:Int}(h:k≠j):(L.set k x).getD j 0=L.getD j 0:=by
 rw[List.getD_eq_getElem?_getD,List.getElem?_set_ne h,← List.getD_eq_getElem?_getD]
theorem getD_set_self {L:List Int}{k:Nat}{x:Int}(h:k<L.length):(L.set k x).getD k 0=x:=by
 rw[List.getD_eq_getElem?_getD,List.getElem?_set_self h];rfl
theorem getD_of_lt {L:List Int}{k:Nat}(h:k<L.length):L[k]?=some (L.getD k 0):=by
 rw[List.getD_eq_getElem?_getD,List.getElem?_eq_getElem h];rfl
theorem getD_rep (n j:Nat):(List.replicate n (0:Int)).getD j 0=0:=by
 rw[List.getD_eq_getElem?_getD,List.getElem?_replicate]
 split <;> rfl
def Is (L:List Int)(n:Int):Prop:=Wds L∧Norm L∧vl L=n
theorem take_norm {L:List Int}(h:Wds L)(n:Nat)(hn:n≤L.length)(hz:∀ j,n≤j→L.getD j 0=0)(hl:n=0∨L.getD (n - 1) 0≠0):Is (L.take n) (vl L):=by
 refine⟨h.take n,fun i hi=>?_,?_⟩
 ·rw[List.length_take,Nat.min_eq_left hn] at hi
  subst hi
  rcases hl with e|e
  ·omega
  ·rw[List.getD_eq_getElem?_getD,List.getElem?_take,if_pos (by omega),← List.getD_eq_getElem?_getD];exact e
 ·have e:=vl_app (L.take n) (L.drop n)
  rw[List.take_append_drop] at e
  have z:vl (L.drop n)=0:=vl_zero _ fun j=>by
   rw[List.getD_eq_getElem?_getD,List.getElem?_drop,← List.getD_eq_getElem?_getD];exact hz _ (by omega)
  rw[e,z];omega
theorem Is.lo {L:List Int}{n:Int}(h:Is L n):0≤n:=h.2.2 ▸ vl_lo h.1
theorem Is.hi {L:List Int}{n:Int}(h:Is L n):n<4294967296 ^ L.length:=h.2.2 ▸ vl_hi h.1
theorem is_top {L:List Int}{n:Int}(h:Is L n){k:Nat}(hk:L.length=k+1):4294967296 ^ k≤n:=by
 obtain⟨h1,h2,h3⟩:=h
 have e:=vl_take L k
 rw[List.take_of_length_le (by omega),h3] at e
 have a:=vl_lo (h1.take k)
 have b:=(h1.get k).1
 have c:=h2 k hk
 have d:(4294967296:Int) ^ k*1≤4294967296 ^ k*L.getD k 0:=Int.mul_le_mul_of_nonneg_left (by omega) (Int.le_of_lt (bp_pos k))
 omega
theorem bp_le {a b:Nat}(h:a≤b):(4294967296:Int) ^ a≤4294967296 ^ b:=by
 have e:(4294967296:Int) ^ b=4294967296 ^ a*4294967296 ^ (b - a):=by rw[← Int.pow_add];congr 1;omega
 have:=bp_pos (b - a)
 have g:=Int.mul_le_mul_of_nonneg_left (show (1:Int)≤4294967296 ^ (b - a) by omega) (Int.le_of_lt (bp_pos a))
 omega
theorem Is.len {L:List Int}{n:Int}(h:Is L n)(k:Nat)(hn:n<4294967296 ^ k):L.length≤k:=by
 apply Nat.le_of_not_lt
 intro hl
 have a:=is_top h (k:=L.length - 1) (by omega)
 have b:=bp_le (a:=k) (b:=L.length - 1) (by omega)
 omega
theorem Is.nil {n:Int}(h:Is [] n):n=0:=h.2.2.symm
theorem is_nil:Is [] 0:=⟨fun _ h=>by simp at h,fun i hi=>by simp at hi,rfl⟩
theorem Is.zero {L:List Int}{n:Int}(h:Is L n):L.length=0↔n=0:=by
 constructor
 ·intro e
  have:=List.eq_nil_of_length_eq_zero e
  subst this
  exact h.nil
 ·intro e
  have:=h.len 0 (by rw[e];decide)
  omega
end Go.Proofs.YtjpnnmkefaodoaaGreat
