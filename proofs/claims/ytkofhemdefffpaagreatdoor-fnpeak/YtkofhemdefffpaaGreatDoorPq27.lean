/-.-/
import Derived.Test.YtkofhemdefffpaaGreatDoorPq23
set_option linter.unusedVariables false
set_option maxHeartbeats 6400000
set_option maxRecDepth 100000
namespace Go.Proofs.YtkofhemdefffpaaGreatDoor
open Go.RowKit
theorem lJ (w:World)(cs:List Value)(t:TypeId):(w.alloc (Obj.cells cs.toArray t)).rangeAt w.heap.size 0 cs:=fun j u h=>by
 rw[cell_of_row _ w.heap.size (0+j) cs.toArray t (0,0) (heap_alloc_new w _)];simpa using h
theorem size_madeE (w:World)(o:Obj):(w.alloc o).heap.size=w.heap.size+1:=by simp
theorem cells_srcE (w:World)(cs:List Value)(t:TypeId)(j:Nat)(u:Value)(h:cs[j]? = some u):(w.alloc (Obj.cells cs.toArray t)).cell? (((yr w 0):Addr).add j)=some u:=by
 rw[Addr.add_mid,cell_of_row _ w.heap.size (0+j) cs.toArray t (0,0) (heap_alloc_new w _)];simpa using h
structure Tt where
 a:Int
 b:Int
 c:Int
 d:Int
 e:Int
 f:Int
 g:Int
 h:Int
def Tt.ns (t:Tt):List Int:=[t.a,t.b,t.c,t.d,t.e,t.f,t.g,t.h]
def Tt.vs (t:Tt):List Value:=[H t.a,H t.b,H t.c,H t.d,H t.e,H t.f,H t.g,H t.h]
def I6 (n:Int):Prop:=-9223372036854775808<=n/\n<=9223372036854775807
def Tt.ok (t:Tt):Prop:=∀n∈t.ns,I6 n
def pay (l:List Int):List Int:=l.flatMap fun n=>putU (zz n)
theorem eZ:∀(l:List Int),(∀n∈l,I6 n)->(pay l).length<=10*l.length
 | [],_=>by simp[pay]
 | n::r,h=>by
  have Z:=zH _ (dy n (h n (by simp)).1 (h n (by simp)).2);have Q:=eZ r (fun m hm=>h m (by simp[hm]));have I:pay (n::r)=putU (zz n)++pay r:=rfl;rw[I,yQ,List.length_cons];omega
theorem gD (l:List Int){k:Nat}{n:Int}(h:l[k]? = some n):pay (l.take (k+1))=pay (l.take k)++putU (zz n):=by
 rw[pay,List.take_add_one,h,List.flatMap_append];simp[pay]
def frH (m:Int)(p:List Int):List Int:=m::putU (zz p.length)++p
def frS (m:Int)(p:List Int)(uQ:Int):Int:=sumL (frH m p) uQ
def frL (m:Int)(p:List Int)(uQ:Int):List Int:=frH m p ++ [frS m p uQ / 256,frS m p uQ % 256]
theorem one_b (l:List Int):∀u∈l.map (Value.int .u8),u.oneCell'=true:=by
 intro u hu;obtain⟨x,_,rfl⟩:=List.mem_map.1 hu;rfl
theorem gj {B:Nat}{w:World}{v:Value}{l:List Int}(h:OwnT B w v l):∃g cap,v = .slice (some (Y g 0)) l.length cap/\g<w.heap.size/\∀j u,(l.map (Value.int .u8))[j]? = some u->w.cell? (((Y g 0):Addr).add j)=some u:=by
 obtain⟨g,cap,xt,t,rfl,K,F,Z,Q,I,h4,h5⟩:=h;refine⟨g,cap,rfl,(yZ.1 F).1,fun j u hu=>?_⟩
 have hj:j<l.length:=by
  rcases Nat.lt_or_ge j l.length with h|h
  ·exact h
  ·rw[List.getElem?_eq_none (by simpa using h)] at hu;cases hu
 have:=lj F h5 hj;have e:((Y g 0):Addr).add j=(Y g j):=by unfold Addr.add;split <;> simp_all
 rw[e,this];rw[List.getElem?_map,yI hj] at hu;simpa[hj] using hu
theorem il {W:World}{B:Nat}{v:Value}{l:List Int}(h:BRow W B v l)(hl:l.length<=1073741824):Rd W v l:=by
 rcases h.2 with⟨rfl,h0⟩|⟨g,cap,xt,rfl,K,F,Z,Q,I,h4⟩
 ·exact⟨none,0,by rw[h0],hl,fun xE=>absurd (List.length_eq_zero_iff.1 h0) xE⟩
 ·refine⟨some (Y g 0),cap,rfl,hl,fun _=>⟨g,0,rfl,fun i hi=>?_⟩⟩;have:=lj (l:=l) F (by simpa using h4) hi;simpa using this
theorem lh {W:World}{B:Nat}{v:Value}{l:List Int}(h:BRow W B v l):∃a c,v = .slice a l.length c:=by
 rcases h.2 with⟨e,e2⟩|⟨g,cap,xt,e,_⟩
 ·exact⟨none,0,by rw[e,e2]⟩
 ·exact⟨_,_,e⟩
theorem bRow_base {W:World}{B C:Nat}{v:Value}{l:List Int}(h:BRow W B v l)(hC:C<=B):BRow W C v l:=by
 refine⟨h.1,?_⟩;rcases h.2 with hn|⟨g,cap,xt,rfl,F,rest⟩
 ·exact .inl hn
 ·exact .inr ⟨g,cap,xt,rfl,yO hC F,rest⟩
theorem putU_byte:∀(u:Nat),∀x∈putU u,0<=x/\x<=255:=by
 intro u
 induction u using Nat.strongRecOn with
 | _ u ih =>
  by_cases hu:u<128
  ·rw[iE hu];intro x hx;simp at hx;omega
  ·rw[iY hu];intro x hx;rcases List.mem_cons.1 hx with rfl|hx
   ·omega
   ·exact ih (u / 128) (by omega) x hx
theorem pay_bts (l:List Int):Bts (pay l):=by
 intro x hx;obtain⟨n,_,h⟩:=List.mem_flatMap.1 hx;exact putU_byte _ x h
theorem frH_bts {m:Int}{p:List Int}(hm:0<=m/\m<=255)(hp:Bts p):Bts (frH m p):=by
 intro x hx;rw[frH,List.cons_append] at hx;rcases List.mem_cons.1 hx with rfl|h
 ·exact hm
 ·rcases List.mem_append.1 h with h|h
  ·exact putU_byte _ x h
  ·exact hp x h
end Go.Proofs.YtkofhemdefffpaaGreatDoor
