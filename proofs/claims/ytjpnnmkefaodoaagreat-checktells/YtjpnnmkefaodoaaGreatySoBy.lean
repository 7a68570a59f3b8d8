/-
  SoB, SoC.
-/
import Derived.Test.YtjpnnmkefaodoaaGreatyBigNy
import Derived.Lib.SlBytesConst
import Derived.Laws.IdiomStrings
set_option maxHeartbeats 8000000
set_option maxRecDepth 100000
namespace Go.Proofs.YtjpnnmkefaodoaaGreat
open Go.RowKit
set_option linter.unusedSimpArgs false
set_option linter.unusedVariables false
def kwR:List (List UInt8):=[[118,111,105,100],[105,102],[101,108,115,101],[119,104,105,108,101],[102,111,114],[114,101,116,117,114,110],[98,114,101,97,107],[99,111,110,116,105,110,117,101]]
def rsvd (s:ByteArray):Bool:=kwR.any (fun k=>s.toList==k) || nk s
theorem rsvd_0 {s:ByteArray}(h0:(s.toList==[118,111,105,100])=true):rsvd s=true:=by unfold rsvd kwR;simp only[List.any_cons,h0,Bool.true_or,Bool.or_true]
theorem rsvd_1 {s:ByteArray}(h0:(s.toList==[118,111,105,100])=false)(h1:(s.toList==[105,102])=true):rsvd s=true:=by unfold rsvd kwR;simp only[List.any_cons,h0,h1,Bool.true_or,Bool.or_true]
theorem rsvd_2 {s:ByteArray}(h0:(s.toList==[118,111,105,100])=false)(h1:(s.toList==[105,102])=false)(h2:(s.toList==[101,108,115,101])=true):rsvd s=true:=by unfold rsvd kwR;simp only[List.any_cons,h0,h1,h2,Bool.true_or,Bool.or_true]
theorem rsvd_3 {s:ByteArray}(h0:(s.toList==[118,111,105,100])=false)(h1:(s.toList==[105,102])=false)(h2:(s.toList==[101,108,115,101])=false)(h3:(s.toList==[119,104,105,108,101])=true):rsvd s=true:=by unfold rsvd kwR;simp only[List.any_cons,h0,h1,h2,h3,Bool.true_or,Bool.or_true]
theorem rsvd_4 {s:ByteArray}(h0:(s.toList==[118,111,105,100])=false)(h1:(s.toList==[105,102])=false)(h2:(s.toList==[101,108,115,101])=false)(h3:(s.toList==[119,104,105,108,101])=false)(h4:(s.toList==[102,111,114])=true):rsvd s=true:=by unfold rsvd kwR;simp only[List.any_cons,h0,h1,h2,h3,h4,Bool.true_or,Bool.or_true]
theorem rsvd_5 {s:ByteArray}(h0:(s.toList==[118,111,105,100])=false)(h1:(s.toList==[105,102])=false)(h2:(s.toList==[101,108,115,101])=false)(h3:(s.toList==[119,104,105,108,101])=false)(h4:(s.toList==[102,111,114])=false)(h5:(s.toList==[114,101,116,117,114,110])=true):rsvd s=true:=by unfold rsvd kwR;simp only[List.any_cons,h0,h1,h2,h3,h4,h5,Bool.true_or,Bool.or_true]
theorem rsvd_6 {s:ByteArray}(h0:(s.toList==[118,111,105,100])=false)(h1:(s.toList==[105,102])=false)(h2:(s.toList==[101,108,115,101])=false)(h3:(s.toList==[119,104,105,108,101])=false)(h4:(s.toList==[102,111,114])=false)(h5:(s.toList==[114,101,116,117,114,110])=false)(h6:(s.toList==[98,114,101,97,107])=true):rsvd s=true:=by unfold rsvd kwR;simp only[List.any_cons,h0,h1,h2,h3,h4,h5,h6,Bool.true_or,Bool.or_true]
theorem rsvd_7 {s:ByteArray}(h0:(s.toList==[118,111,105,100])=false)(h1:(s.toList==[105,102])=false)(h2:(s.toList==[101,108,115,101])=false)(h3:(s.toList==[119,104,105,108,101])=false)(h4:(s.toList==[102,111,114])=false)(h5:(s.toList==[114,101,116,117,114,110])=false)(h6:(s.toList==[98,114,101,97,107])=false)(h7:(s.toList==[99,111,110,116,105,110,117,101])=true):rsvd s=true:=by unfold rsvd kwR;simp only[List.any_cons,h0,h1,h2,h3,h4,h5,h6,h7,Bool.true_or,Bool.or_true]
theorem rsvd_no {s:ByteArray}(h0:(s.toList==[118,111,105,100])=false)(h1:(s.toList==[105,102])=false)(h2:(s.toList==[101,108,115,101])=false)(h3:(s.toList==[119,104,105,108,101])=false)(h4:(s.toList==[102,111,114])=false)(h5:(s.toList==[114,101,116,117,114,110])=false)(h6:(s.toList==[98,114,101,97,107])=false)(h7:(s.toList==[99,111,110,116,105,110,117,101])=false):rsvd s=nk s:=by unfold rsvd kwR;simp only[List.any_cons,List.any_nil,h0,h1,h2,h3,h4,h5,h6,h7,Bool.false_or]
theorem reserved_any (s:ByteArray)(w:World):Calls Tryz.prog 23 #[.string s] w fun e w'=>e=.returned (.bool (rsvd s))∧Below w.heap.size w w':=by
 have NA:=zH (fun W=>named_any s W)
 by_cases h0:(s.toList==[118,111,105,100])=true
 ·rw[rsvd_0 h0]
  go_enter Tryz.func23,Tryz.ntmps23
  go_wp2_with fail
  go_ret
  exact⟨rfl,Below.refl _ _⟩
 ·replace h0:(s.toList==[118,111,105,100])=false:=by simpa using h0
  by_cases h1:(s.toList==[105,102])=true
  ·rw[rsvd_1 h0 h1]
   go_enter Tryz.func23,Tryz.ntmps23
   go_wp2_with fail
   go_ret
   exact⟨rfl,Below.refl _ _⟩
  ·replace h1:(s.toList==[105,102])=false:=by simpa using h1
   by_cases h2:(s.toList==[101,108,115,101])=true
   ·rw[rsvd_2 h0 h1 h2]
    go_enter Tryz.func23,Tryz.ntmps23
    go_wp2_with fail
    go_ret
    exact⟨rfl,Below.refl _ _⟩
   ·replace h2:(s.toList==[101,108,115,101])=false:=by simpa using h2
    by_cases h3:(s.toList==[119,104,105,108,101])=true
    ·rw[rsvd_3 h0 h1 h2 h3]
     go_enter Tryz.func23,Tryz.ntmps23
     go_wp2_with fail
     go_ret
     exact⟨rfl,Below.refl _ _⟩
    ·replace h3:(s.toList==[119,104,105,108,101])=false:=by simpa using h3
     by_cases h4:(s.toList==[102,111,114])=true
     ·rw[rsvd_4 h0 h1 h2 h3 h4]
      go_enter Tryz.func23,Tryz.ntmps23
      go_wp2_with fail
      go_ret
      exact⟨rfl,Below.refl _ _⟩
     ·replace h4:(s.toList==[102,111,114])=false:=by simpa using h4
      by_cases h5:(s.toList==[114,101,116,117,114,110])=true
      ·rw[rsvd_5 h0 h1 h2 h3 h4 h5]
       go_enter Tryz.func23,Tryz.ntmps23
       go_wp2_with fail
       go_ret
       exact⟨rfl,Below.refl _ _⟩
      ·replace h5:(s.toList==[114,101,116,117,114,110])=false:=by simpa using h5
       by_cases h6:(s.toList==[98,114,101,97,107])=true
       ·rw[rsvd_6 h0 h1 h2 h3 h4 h5 h6]
        go_enter Tryz.func23,Tryz.ntmps23
        go_wp2_with fail
        go_ret
        exact⟨rfl,Below.refl _ _⟩
       ·replace h6:(s.toList==[98,114,101,97,107])=false:=by simpa using h6
        by_cases h7:(s.toList==[99,111,110,116,105,110,117,101])=true
        ·rw[rsvd_7 h0 h1 h2 h3 h4 h5 h6 h7]
         go_enter Tryz.func23,Tryz.ntmps23
         go_wp2_with fail
         go_ret
         exact⟨rfl,Below.refl _ _⟩
        ·replace h7:(s.toList==[99,111,110,116,105,110,117,101])=false:=by simpa using h7
         rw[rsvd_no h0 h1 h2 h3 h4 h5 h6 h7]
         go_enter Tryz.func23,Tryz.ntmps23
         go_wp2_with fail
         refine (uI NA _).mono ?_
         rintro e w1 ⟨rfl,k1⟩
         go_wp2_with fail
         go_ret
         exact⟨rfl,bt k1 (qaa _ _)⟩
theorem reserved8_any (s:ByteArray)(w:World):Calls Tryz.prog 57 #[.string s] w fun e w'=>e=.returned (.bool (rsvd s))∧Below w.heap.size w w':=by
 have NA:=zH (fun W=>rnamed_any s W)
 generalize hR:rsvd s=R
 have HR:=zH hR
 clear hR
 have BX:=zH (Box.new w #[.string ⟨#[118,111,105,100]⟩,.string ⟨#[105,102]⟩,.string ⟨#[101,108,115,101]⟩,.string ⟨#[119,104,105,108,101]⟩,.string ⟨#[102,111,114]⟩,.string ⟨#[114,101,116,117,114,110]⟩,.string ⟨#[98,114,101,97,107]⟩,.string ⟨#[99,111,110,116,105,110,117,101]⟩] 9)
 have K1:=zH (qaa w (.cells #[.string ⟨#[118,111,105,100]⟩,.string ⟨#[105,102]⟩,.string ⟨#[101,108,115,101]⟩,.string ⟨#[119,104,105,108,101]⟩,.string ⟨#[102,111,114]⟩,.string ⟨#[114,101,116,117,114,110]⟩,.string ⟨#[98,114,101,97,107]⟩,.string ⟨#[99,111,110,116,105,110,117,101]⟩] 9))
 go_enter Tryz.func57,Tryz.ntmps57
 go_wp2_with fail
 generalize w.alloc (.cells #[.string ⟨#[118,111,105,100]⟩,.string ⟨#[105,102]⟩,.string ⟨#[101,108,115,101]⟩,.string ⟨#[119,104,105,108,101]⟩,.string ⟨#[102,111,114]⟩,.string ⟨#[114,101,116,117,114,110]⟩,.string ⟨#[98,114,101,97,107]⟩,.string ⟨#[99,111,110,116,105,110,117,101]⟩] 9)=w1 at *
 go_loopg [9] 8 (fun g t wr=>∃ k:Nat,k≤8∧g=8 - k∧t=.int .i64 (k:Int)∧wr=w1∧(0<k→(s.toList==[118,111,105,100])=false)∧(1<k→(s.toList==[105,102])=false)∧(2<k→(s.toList==[101,108,115,101])=false)∧(3<k→(s.toList==[119,104,105,108,101])=false)∧(4<k→(s.toList==[102,111,114])=false)∧(5<k→(s.toList==[114,101,116,117,114,110])=false)∧(6<k→(s.toList==[98,114,101,97,107])=false)∧(7<k→(s.toList==[99,111,110,116,105,110,117,101])=false))
 case atStart=>exact⟨0,by omega,rfl,rfl,rfl,fun h=>by omega,fun h=>by omega,fun h=>by omega,fun h=>by omega,fun h=>by omega,fun h=>by omega,fun h=>by omega,fun h=>by omega⟩
 case round =>
  obtain⟨k,hk,hg,rfl,rfl,H0,H1,H2,H3,H4,H5,H6,H7⟩:=hrel
  have hbl:=(uI BX).1
  have hkk:k=0∨k=1∨k=2∨k=3∨k=4∨k=5∨k=6∨k=7∨k=8:=by omega
  rcases hkk with rfl|rfl|rfl|rfl|rfl|rfl|rfl|rfl|rfl
  ·have cx:=(uI BX).2.1 0 _ rfl
   clear H0 H1 H2 H3 H4 H5 H6 H7
   by_cases h0:(s.toList==[118,111,105,100])=true
   ·have hR:=(uI HR).symm.trans (rsvd_0 h0)
    subst hR
    go_wp2_with fail
    go_ret
    exact⟨rfl,uI K1⟩
   ·replace h0:(s.toList==[118,111,105,100])=false:=by simpa using h0
    go_wp2_with fail
    go_roundg (8 - 1)
    case measure=>omega
    case rel=>exact⟨1,by omega,rfl,by go_num,rfl,fun _=>h0,fun h=>by omega,fun h=>by omega,fun h=>by omega,fun h=>by omega,fun h=>by omega,fun h=>by omega,fun h=>by omega⟩
  ·have cx:=(uI BX).2.1 1 _ rfl
   have h0:=H0 (by omega)
   clear H0 H1 H2 H3 H4 H5 H6 H7
   by_cases h1:(s.toList==[105,102])=true
   ·have hR:=(uI HR).symm.trans (rsvd_1 h0 h1)
    subst hR
    go_wp2_with fail
    go_ret
    exact⟨rfl,uI K1⟩
   ·replace h1:(s.toList==[105,102])=false:=by simpa using h1
    go_wp2_with fail
    go_roundg (8 - 2)
    case measure=>omega
    case rel=>exact⟨2,by omega,rfl,by go_num,rfl,fun _=>h0,fun _=>h1,fun h=>by omega,fun h=>by omega,fun h=>by omega,fun h=>by omega,fun h=>by omega,fun h=>by omega⟩
  ·have cx:=(uI BX).2.1 2 _ rfl
   have h0:=H0 (by omega)
   have h1:=H1 (by omega)
   clear H0 H1 H2 H3 H4 H5 H6 H7
   by_cases h2:(s.toList==[101,108,115,101])=true
   ·have hR:=(uI HR).symm.trans (rsvd_2 h0 h1 h2)
    subst hR
    go_wp2_with fail
    go_ret
    exact⟨rfl,uI K1⟩
   ·replace h2:(s.toList==[101,108,115,101])=false:=by simpa using h2
    go_wp2_with fail
    go_roundg (8 - 3)
    case measure=>omega
    case rel=>exact⟨3,by omega,rfl,by go_num,rfl,fun _=>h0,fun _=>h1,fun _=>h2,fun h=>by omega,fun h=>by omega,fun h=>by omega,fun h=>by omega,fun h=>by omega⟩
  ·have cx:=(uI BX).2.1 3 _ rfl
   have h0:=H0 (by omega)
   have h1:=H1 (by omega)
   have h2:=H2 (by omega)
   clear H0 H1 H2 H3 H4 H5 H6 H7
   by_cases h3:(s.toList==[119,104,105,108,101])=true
   ·have hR:=(uI HR).symm.trans (rsvd_3 h0 h1 h2 h3)
    subst hR
    go_wp2_with fail
    go_ret
    exact⟨rfl,uI K1⟩
   ·replace h3:(s.toList==[119,104,105,108,101])=false:=by simpa using h3
    go_wp2_with fail
    go_roundg (8 - 4)
    case measure=>omega
    case rel=>exact⟨4,by omega,rfl,by go_num,rfl,fun _=>h0,fun _=>h1,fun _=>h2,fun _=>h3,fun h=>by omega,fun h=>by omega,fun h=>by omega,fun h=>by omega⟩
  ·have cx:=(uI BX).2.1 4 _ rfl
   have h0:=H0 (by omega)
   have h1:=H1 (by omega)
   have h2:=H2 (by omega)
   have h3:=H3 (by omega)
   clear H0 H1 H2 H3 H4 H5 H6 H7
   by_cases h4:(s.toList==[102,111,114])=true
   ·have hR:=(uI HR).symm.trans (rsvd_4 h0 h1 h2 h3 h4)
    subst hR
    go_wp2_with fail
    go_ret
    exact⟨rfl,uI K1⟩
   ·replace h4:(s.toList==[102,111,114])=false:=by simpa using h4
    go_wp2_with fail
    go_roundg (8 - 5)
    case measure=>omega
    case rel=>exact⟨5,by omega,rfl,by go_num,rfl,fun _=>h0,fun _=>h1,fun _=>h2,fun _=>h3,fun _=>h4,fun h=>by omega,fun h=>by omega,fun h=>by omega⟩
  ·have cx:=(uI BX).2.1 5 _ rfl
   have h0:=H0 (by omega)
   have h1:=H1 (by omega)
   have h2:=H2 (by omega)
   have h3:=H3 (by omega)
   have h4:=H4 (by omega)
   clear H0 H1 H2 H3 H4 H5 H6 H7
   by_cases h5:(s.toList==[114,101,116,117,114,110])=true
   ·have hR:=(uI HR).symm.trans (rsvd_5 h0 h1 h2 h3 h4 h5)
    subst hR
    go_wp2_with fail
    go_ret
    exact⟨rfl,uI K1⟩
   ·replace h5:(s.toList==[114,101,116,117,114,110])=false:=by simpa using h5
    go_wp2_with fail
    go_roundg (8 - 6)
    case measure=>omega
    case rel=>exact⟨6,by omega,rfl,by go_num,rfl,fun _=>h0,fun _=>h1,fun _=>h2,fun _=>h3,fun _=>h4,fun _=>h5,fun h=>by omega,fun h=>by omega⟩
  ·have cx:=(uI BX).2.1 6 _ rfl
   have h0:=H0 (by omega)
   have h1:=H1 (by omega)
   have h2:=H2 (by omega)
   have h3:=H3 (by omega)
   have h4:=H4 (by omega)
   have h5:=H5 (by omega)
   clear H0 H1 H2 H3 H4 H5 H6 H7
   by_cases h6:(s.toList==[98,114,101,97,107])=true
   ·have hR:=(uI HR).symm.trans (rsvd_6 h0 h1 h2 h3 h4 h5 h6)
    subst hR
    go_wp2_with fail
    go_ret
    exact⟨rfl,uI K1⟩
   ·replace h6:(s.toList==[98,114,101,97,107])=false:=by simpa using h6
    go_wp2_with fail
    go_roundg (8 - 7)
    case measure=>omega
    case rel=>exact⟨7,by omega,rfl,by go_num,rfl,fun _=>h0,fun _=>h1,fun _=>h2,fun _=>h3,fun _=>h4,fun _=>h5,fun _=>h6,fun h=>by omega⟩
  ·have cx:=(uI BX).2.1 7 _ rfl
   have h0:=H0 (by omega)
   have h1:=H1 (by omega)
   have h2:=H2 (by omega)
   have h3:=H3 (by omega)
   have h4:=H4 (by omega)
   have h5:=H5 (by omega)
   have h6:=H6 (by omega)
   clear H0 H1 H2 H3 H4 H5 H6 H7
   by_cases h7:(s.toList==[99,111,110,116,105,110,117,101])=true
   ·have hR:=(uI HR).symm.trans (rsvd_7 h0 h1 h2 h3 h4 h5 h6 h7)
    subst hR
    go_wp2_with fail
    go_ret
    exact⟨rfl,uI K1⟩
   ·replace h7:(s.toList==[99,111,110,116,105,110,117,101])=false:=by simpa using h7
    go_wp2_with fail
    go_roundg (8 - 8)
    case measure=>omega
    case rel=>exact⟨8,by omega,rfl,by go_num,rfl,fun _=>h0,fun _=>h1,fun _=>h2,fun _=>h3,fun _=>h4,fun _=>h5,fun _=>h6,fun _=>h7⟩
  ·have hR:=(uI HR).symm.trans (rsvd_no (H0 (by omega)) (H1 (by omega)) (H2 (by omega)) (H3 (by omega)) (H4 (by omega)) (H5 (by omega)) (H6 (by omega)) (H7 (by omega)))
   subst hR
   clear H0 H1 H2 H3 H4 H5 H6 H7
   go_wp2_with fail
   refine (uI NA _).mono ?_
   rintro e w2 ⟨rfl,k2⟩
   go_wp2_with fail
   go_ret
   exact⟨rfl,bt (bt (uI K1) k2) (qaa _ _)⟩
theorem byte_conv (s:ByteArray)(w:World):∃ cap W',(convert 9 118 (.string s)).run Tryz.prog w=.ok (.slice (some ⟨w.heap.size,0,none⟩) s.size cap) W'∧Below w.heap.size w W'∧∀ j (h:j<s.size),W'.cell? ⟨w.heap.size,j,none⟩=some (.int .u8 (s[j].toNat:Int)):=by
 refine⟨_,_,run_bytes_of_string w 9 118 5 s Tryz.underlying9 Tryz.underlying118 Tryz.underlying5,?_,?_⟩
 ·exact ((Below.refl _ _).drew).alloc (Nat.le_refl _) _
 ·intro j h
  have hh:∀ o:Obj,(w.drew.alloc o).heap[w.heap.size]?=some o:=fun o=>by
   show (w.heap.push o)[w.heap.size]?=_
   simp
  have hj:j<s.data.size:=h
  unfold World.cell?
  simp only[hh]
  have hb:(bytesRow s (grownCap w s.size 0 5))[j]?=some (.int .u8 (s[j].toNat:Int)):=by
   unfold bytesRow
   rw[Array.getElem?_append_left (by rw[Array.size_map];exact hj),Array.getElem?_map,Array.getElem?_eq_getElem hj]
   rfl
  simpa using hb
def okN:List UInt8→Bool→Bool
 | [],_=>true
 | x::l,f=>(ltr (ch x) || (dgt (ch x)&&!f))&&okN l false
def namN (s:ByteArray):Bool:=okN s.toList true&&decide (1≤s.size∧s.size≤32)&&!rsvd s
theorem okN_all:∀ l,okN l false=decide (wlen l=l.length)
 | []=>rfl
 | x::l=>by
  rw[okN,okN_all l,wlen,List.length_cons]
  by_cases h:wch x=true
  ·have e:(ltr (ch x) || (dgt (ch x)&&!false))=true:=by unfold wch at h;simpa using h
   rw[e,if_pos h,Bool.true_and]
   simp
  ·have e:(ltr (ch x) || (dgt (ch x)&&!false))=false:=by unfold wch at h;simpa using h
   rw[e,if_neg h,Bool.false_and]
   have:¬ (0=l.length+1):=by omega
   simp
theorem size_list (s:ByteArray):s.toList.length=s.size:=by rw[ByteArray.toList_eq,Array.length_toList];rfl
theorem snamed_any (s:ByteArray)(w:World):Calls Tryz.prog 8 #[.string s] w fun e w'=>e=.returned (.bool (namN s))∧Below w.heap.size w w':=by
 have sl:=size_list s
 cases hl:s.toList with
 | nil =>
  have he:s.toList.isEmpty=true:=by rw[hl];rfl
  have hz:s.size=0:=by rw[← sl,hl];rfl
  have hn:namN s=false:=by unfold namN;rw[hz];simp
  rw[hn]
  clear hn hl hz sl
  go_enter Tryz.func8,Tryz.ntmps8
  go_wp2_with fail
  go_ret
  exact⟨rfl,Below.refl _ _⟩
 | cons x l =>
  have he:s.toList.isEmpty=false:=by rw[hl];rfl
  have hz:s.size=l.length+1:=by rw[← sl,hl];rfl
  by_cases h32:s.size≤32
  ·have d1:¬ (32:Int)<(s.size:Int):=by omega
   have hz0:0<s.size:=by omega
   have hz0I:(0:Int)<(s.size:Int):=by omega
   have ex:s[0]'hz0=x:=by
    have h2:s.data.toList[0]?=some x:=by rw[← ByteArray.toList_eq,hl];rfl
    rw[Array.getElem?_toList] at h2
    exact (Array.getElem?_eq_some_iff.1 h2).2
   have LA:=zH (fun W=>isLetter_any ((s[0].toNat:Nat):Int) W)
   have RA:=zH (fun W=>reserved_any s W)
   have WA:=zH (fun W=>wordLength_any s.toList W (by omega))
   rw[show ba s.toList=s by rw[ByteArray.toList_eq];exact ba_of s] at WA
   by_cases hx:ltr (ch x)=true
   ·have hx':ltr ((s[0].toNat:Nat):Int)=true:=by rw[ex];exact hx
    rw[hx'] at LA
    by_cases hw:wlen s.toList=s.size
    ·have hn:namN s=!rsvd s:=by
      unfold namN
      rw[hl,okN,hx,okN_all]
      rw[hl,wlen,if_pos (by unfold wch;rw[hx];rfl)] at hw
      have:wlen l=l.length:=by omega
      rw[this]
      simp;omega
     rw[hn]
     rw[hw] at WA
     generalize rsvd s=R at *
     clear hn hw hx hx' ex hl hz sl
     go_enter Tryz.func8,Tryz.ntmps8
     go_wp2_with fail
     refine (uI LA _).mono ?_
     rintro e w1 ⟨rfl,hw1⟩
     subst w1
     go_wp2_with fail
     refine (uI WA _).mono ?_
     rintro e w1 ⟨rfl,hw1⟩
     subst w1
     go_wp2_with fail
     refine (uI RA _).mono ?_
     rintro e w1 ⟨rfl,k1⟩
     go_wp2_with fail
     go_ret
     exact⟨rfl,k1⟩
    ·have hn:namN s=false:=by
      unfold namN
      rw[hl,okN,hx,okN_all]
      rw[hl,wlen,if_pos (by unfold wch;rw[hx];rfl)] at hw
      have:¬ wlen l=l.length:=by omega
      simp[this]
     rw[hn]
     have hwb:(((wlen s.toList:Nat):Int)==(s.size:Int))=false:=by simpa using (by omega:¬ ((wlen s.toList:Nat):Int)=(s.size:Int))
     generalize wlen s.toList=R at *
     clear hn hw hx hx' ex hl RA hz sl
     go_enter Tryz.func8,Tryz.ntmps8
     go_wp2_with fail
     refine (uI LA _).mono ?_
     rintro e w1 ⟨rfl,hw1⟩
     subst w1
     go_wp2_with fail
     refine (uI WA _).mono ?_
     rintro e w1 ⟨rfl,hw1⟩
     subst w1
     go_wp2_with fail
     go_ret
     exact⟨rfl,Below.refl _ _⟩
   ·replace hx:ltr (ch x)=false:=by simpa using hx
    have hx':ltr ((s[0].toNat:Nat):Int)=false:=by rw[ex];exact hx
    rw[hx'] at LA
    have hn:namN s=false:=by
     unfold namN
     rw[hl,okN,hx];simp
    rw[hn]
    clear hn hx hx' ex hl WA RA hz sl
    go_enter Tryz.func8,Tryz.ntmps8
    go_wp2_with fail
    refine (uI LA _).mono ?_
    rintro e w1 ⟨rfl,hw1⟩
    subst w1
    go_wp2_with fail
    go_ret
    exact⟨rfl,Below.refl _ _⟩
  ·have d1:(32:Int)<(s.size:Int):=by omega
   have hn:namN s=false:=by
    unfold namN
    have:¬ (1≤s.size∧s.size≤32):=by omega
    simp[this]
   rw[hn]
   clear hn hl hz sl
   go_enter Tryz.func8,Tryz.ntmps8
   go_wp2_with fail
   go_ret
   exact⟨rfl,Below.refl _ _⟩
theorem named8_any (l:List UInt8)(w:World)(hl:l.length≤maxLen):Calls Tryz.prog 35 #[.string (ba l)] w fun e w'=>e=.returned (.bool (namN (ba l)))∧Below w.heap.size w w':=by
 have RA:=zH (fun W=>reserved8_any (ba l) W)
 have hnm:namN (ba l)=(okN l true&&(decide (1≤l.length∧l.length≤32)&&!rsvd (ba l))):=by unfold namN;rw[ba_list,ba_size,Bool.and_assoc]
 rw[hnm]
 clear hnm
 generalize rsvd (ba l)=RV at *
 generalize hR:okN l true=R
 have HR:Hid (okN (l.drop 0) (decide (0=0))=R):=hR
 clear hR
 obtain⟨cap,W',hrun,hK,hC⟩:=byte_conv (ba l) w
 rw[ba_size] at hrun
 have hC2:∀ j (h:j<l.length),W'.cell? ⟨w.heap.size,j,none⟩=some (.int .u8 (ch (l[j]'h))):=fun j h=>by
  have e:=ba_at l j h
  unfold ch
  rw[← e]
  exact hC j h
 have HC:=zH hC2
 have HK:=zH hK
 clear hC hC2 hK
 unfold maxLen at hl
 go_enter Tryz.func35,Tryz.ntmps35
 go_wp2_with fail
 clear hrun
 go_loopg [8] l.length (fun g t wr=>∃ k:Nat,k≤l.length∧g=l.length - k∧t=.int .i64 (k:Int)∧wr=W'∧Hid (okN (l.drop k) (decide (k=0))=R))
 case atStart=>exact⟨0,Nat.zero_le _,rfl,rfl,rfl,HR⟩
 case round =>
  obtain⟨k,hk,hg,rfl,rfl,HE⟩:=hrel
  clear HR
  by_cases hlt:k<l.length
  ·have hcell:=uI HC k hlt
   have hki:(k:Int)<(l.length:Int):=by omega
   have hE:=uI HE
   rw[List.drop_eq_getElem_cons hlt,okN] at hE
   have HE2:=zH hE
   clear hE HE
   generalize ch l[k]=c at *
   have LA:=zH (fun W=>letter8_any c W)
   have DA:=zH (fun W=>digit8_any c W)
   by_cases h1:ltr c=true
   ·rw[h1] at LA HE2
    have HE3:Hid (okN (l.drop (k+1)) (decide (k+1=0))=R):=by
     have:=uI HE2
     rw[Bool.true_or,Bool.true_and] at this
     exact this
    clear HE2 DA
    go_wp2_with fail
    refine (uI LA _).mono ?_
    rintro e w1 ⟨rfl,hw⟩
    subst w1
    go_wp2_with fail
    go_roundg (l.length - (k+1))
    case measure=>omega
    case rel=>exact⟨k+1,by omega,rfl,by go_num,rfl,HE3⟩
   ·replace h1:ltr c=false:=by simpa using h1
    rw[h1] at LA HE2
    by_cases h2:dgt c=true
    ·rw[h2] at DA HE2
     by_cases hk0:k=0
     ·subst hk0
      have hR:R=false:=by rw[← uI HE2];rfl
      subst hR
      clear HE2
      go_wp2_with fail
      refine (uI LA _).mono ?_
      rintro e w1 ⟨rfl,hw⟩
      subst w1
      go_wp2_with fail
      refine (uI DA _).mono ?_
      rintro e w1 ⟨rfl,hw⟩
      subst w1
      go_wp2_with fail
      go_ret
      exact⟨rfl,uI HK⟩
     ·have hk1:(0:Int)<(k:Int):=by omega
      have hk2:0<k:=by omega
      have hk3:decide ((0:Int)<(k:Int))=true:=decide_eq_true hk1
      have hk4:decide (0<k)=true:=decide_eq_true hk2
      have HE3:Hid (okN (l.drop (k+1)) (decide (k+1=0))=R):=by
       have:=uI HE2
       rw[show decide (k=0)=false by simpa using hk0] at this
       exact this
      clear HE2
      go_wp2_with fail
      refine (uI LA _).mono ?_
      rintro e w1 ⟨rfl,hw⟩
      subst w1
      go_wp2_with fail
      refine (uI DA _).mono ?_
      rintro e w1 ⟨rfl,hw⟩
      subst w1
      go_wp2_with fail
      go_roundg (l.length - (k+1))
      case measure=>omega
      case rel=>exact⟨k+1,by omega,rfl,by go_num,rfl,HE3⟩
    ·replace h2:dgt c=false:=by simpa using h2
     rw[h2] at DA HE2
     have hR:R=false:=by rw[← uI HE2];rfl
     subst hR
     clear HE2
     go_wp2_with fail
     refine (uI LA _).mono ?_
     rintro e w1 ⟨rfl,hw⟩
     subst w1
     go_wp2_with fail
     refine (uI DA _).mono ?_
     rintro e w1 ⟨rfl,hw⟩
     subst w1
     go_wp2_with fail
     go_ret
     exact⟨rfl,uI HK⟩
  ·have hki:¬ (k:Int)<(l.length:Int):=by omega
   have hR:R=true:=by rw[← uI HE,List.drop_eq_nil_of_le (by omega)];rfl
   subst hR
   clear HE
   have hbs:=ba_size l
   have HBS:=zH hbs
   clear hbs
   by_cases g1:1≤l.length
   ·by_cases g2:l.length≤32
    ·have e1:(1:Int)≤((ba l).size:Int):=by rw[ba_size];omega
     have e2:((ba l).size:Int)≤32:=by rw[ba_size];omega
     have e3:decide (1≤l.length∧l.length≤32)=true:=decide_eq_true ⟨g1,g2⟩
     go_wp2_with fail
     refine (uI RA _).mono ?_
     rintro e w1 ⟨rfl,k1⟩
     go_wp2_with fail
     go_ret
     exact⟨by rw[e3];rfl,bt (uI HK) k1⟩
    ·have e1:(1:Int)≤((ba l).size:Int):=by rw[ba_size];omega
     have e2:¬ ((ba l).size:Int)≤32:=by rw[ba_size];omega
     have e3:decide (1≤l.length∧l.length≤32)=false:=decide_eq_false (by omega)
     go_wp2_with fail
     go_ret
     exact⟨rfl,uI HK⟩
   ·have e1:¬ (1:Int)≤((ba l).size:Int):=by rw[ba_size];omega
    have e3:decide (1≤l.length∧l.length≤32)=false:=decide_eq_false (by omega)
    go_wp2_with fail
    go_ret
    exact⟨rfl,uI HK⟩
end Go.Proofs.YtjpnnmkefaodoaaGreat
