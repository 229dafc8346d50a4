/-
  A taker trades with the order at a place, by the model: proved by walking the function.
-/
import Derived.Test.YtopjoogdpjaocaaGreatTj32
set_option linter.unusedVariables false
set_option maxHeartbeats 6400000
set_option maxRecDepth 100000
namespace Go.Proofs.YtopjoogdpjaocaaGreat
open Go.RowKit
structure R8 (v ta ea:Value) (V0 V1 V2:World) (x:List Bool) (f:Nat→Value) (W:World):Prop where
 f0:x[0]? = some true→f 0 = v
 f1:x[1]? = some true→f 1 = ta
 f2:x[2]? = some true→f 2 = ea
 f3:x[3]? = some true→f 3 = v
 f5:x[5]? = some true→f 5 = ea
 s0:x[4]? = some false→W = V0
 s1:x[4]? = some true→x[5]? = some false→W = V1
 s2:x[4]? = some true→x[5]? = some true→W = V2
def R8A (F:(Nat→Value)→Act) (v ta ea:Value) (V0 V1 V2:World) (x:List Bool) (A:Act) (W:World):Prop:=∃ f,A = F f∧R8 v ta ea V0 V1 V2 x f W
section
variable {v ta ea:Value} {V0 V1 V2:World} {x:List Bool} {f:Nat→Value} {W:World}
theorem r8_val (h:R8 v ta ea V0 V1 V2 x f W) (i:Nat) (u:Value) (hi:i < 4) (h0:i = 0→u = v) (h1:i = 1→u = ta) (h2:i = 2→u = ea) (h3:i = 3→u = v):R8 v ta ea V0 V1 V2 (x.set i true) (upd f i u) W:=by
 have key:∀ j (y:Value),(x[j]? = some true→f j = y)→(i = j→u = y)→(x.set i true)[j]? = some true→upd f i u j = y:=by
  intro j y hf hu hx
  by_cases e:i = j
  ·subst e; rw [zp]; exact hu rfl
  ·rw [zq _ _ (fun e'=>e e'.symm)]; rw [gq e] at hx; exact hf hx
 refine ⟨key 0 v h.f0 h0,key 1 ta h.f1 h1,key 2 ea h.f2 h2,key 3 v h.f3 h3,key 5 ea h.f5 (by omega),?_,?_,?_⟩ <;> rw [gq (show i ≠ 4 by omega)]
 ·exact h.s0
 ·rw [gq (show i ≠ 5 by omega)]; exact h.s1
 ·rw [gq (show i ≠ 5 by omega)]; exact h.s2
theorem r8_4 (h:R8 v ta ea V0 V1 V2 x f W) (h4:x[4]? = some false) (h5:x[5]? = some false):R8 v ta ea V0 V1 V2 (x.set 4 true) f V1:=by
 refine ⟨?_,?_,?_,?_,?_,?_,?_,?_⟩
 ·rw [gq (by omega)]; exact h.f0
 ·rw [gq (by omega)]; exact h.f1
 ·rw [gq (by omega)]; exact h.f2
 ·rw [gq (by omega)]; exact h.f3
 ·rw [gq (by omega)]; exact h.f5
 ·intro e; rw [gqs h4] at e; cases e
 ·exact fun _ _=>rfl
 ·intro _ e; rw [gq (by omega),h5] at e; cases e
theorem r8_5 (h:R8 v ta ea V0 V1 V2 x f W) (h4:x[4]? = some true) (h5:x[5]? = some false):R8 v ta ea V0 V1 V2 (x.set 5 true) (upd f 5 ea) V2:=by
 refine ⟨?_,?_,?_,?_,?_,?_,?_,?_⟩
 ·rw [gq (by omega),zq _ _ (by omega)]; exact h.f0
 ·rw [gq (by omega),zq _ _ (by omega)]; exact h.f1
 ·rw [gq (by omega),zq _ _ (by omega)]; exact h.f2
 ·rw [gq (by omega),zq _ _ (by omega)]; exact h.f3
 ·intro _; exact zp _ _ _
 ·intro e; rw [gq (by omega),h4] at e; cases e
 ·intro _ e; rw [gqs h5] at e; cases e
 ·exact fun _ _=>rfl
end
theorem zax {B b:Nat} {v:Value} {l:List Od} (hb:b < B):∀ (vs:List Value) (o:Nat) (W:World),ORow W B v l→ORow (W.setCells b o vs) B v l
 | [],_,_,h=>h
 | u :: us,o,W,h=>by rw [World.setCells]; exact zax hb us (o + 1) _ (zaD h hb o u)
theorem zcd {W:World} {b o p k:Nat} {cs vs:List Value} (h:W.rangeAt b o cs) (hb:p ≠ b):(W.setCells p k vs).rangeAt b o cs:=fun j u hj =>
 (World.cell?_setCells_out p vs k W ⟨b,o + j,none⟩ (fun e=>absurd e.symm hb)).trans (h j u hj)
theorem hit_same {l:List Od} {i:Nat} {o:Od} {q:Int} (h:o.left - q = 0):(l.set i { o with left:=o.left - q }).take i ++ (l.set i { o with left:=o.left - q }).drop (i + 1) = zau l i o q:=by
 have:o.left = q:=by omega
 rw [zau,if_pos this,List.take_set_of_le (Nat.le_refl _),List.drop_set_of_lt (by omega)]
theorem hit_less {l:List Od} {i:Nat} {o:Od} {q:Int} (h:o.left - q ≠ 0):l.set i { o with left:=o.left - q } = zau l i o q:=by
 have:o.left ≠ q:=by omega
 rw [zau,if_neg this]
def DH (S b off i n cap:Nat) (tid oid q oticks:Int) (base:Nat) (p:Prop) (W:World):Nat→Value→Prop
 | 0,v=>v = .pointer (some ⟨S,0,none⟩)
 | 1,v=>v = .int .i64 tid
 | 2,v=>v = .slice (some ⟨b,off,none⟩) n cap
 | 3,v=>v = .int .i64 i
 | 4,v=>v = .pointer (some ⟨b,off + i * 6,none⟩)
 | 5,v=>v = .pointer (some ⟨b,off + i * 6,none⟩)
 | 6,v=>v = .int .i64 oid
 | 7,v=>v = .int .i64 q
 | 8,v=>v = .slice (some ⟨b,off,none⟩) n cap
 | 9,v=>v = .int .i64 i
 | 10,v=>v = .pointer (some ⟨b,off + i * 6,none⟩)
 | 11,v=>v = .pointer (some ⟨b,off + i * 6 + 2,none⟩)
 | 12,v=>v = .int .i64 oticks
 | 13,v=>v = .agg #[.int .i64 3,.int .i64 0,.int .i64 0,.int .i64 0,.int .i64 0,.int .i64 0,.int .i64 0,.float .f64 0,.string ⟨#[]⟩,.int .i64 tid,.int .i64 oid,.int .i64 q,.int .i64 oticks,.int .i64 0]
 | 14,v=>∃ c,v = .pointer (some ⟨c,0,none⟩)∧base ≤ c∧c < W.heap.size∧W.there c 0 14∧(p→W.rangeAt c 0 [.int .i64 3,.int .i64 0,.int .i64 0,.int .i64 0,.int .i64 0,.int .i64 0,.int .i64 0,.float .f64 0,.string ⟨#[]⟩,.int .i64 tid,.int .i64 oid,.int .i64 q,.int .i64 oticks,.int .i64 0])
 | _,_=>True
theorem dh_grow {S b off i n cap:Nat} {tid oid q oticks:Int} {base:Nat} {p:Prop} {V V':World} (hb:Below V.heap.size V V'):∀ j v,DH S b off i n cap tid oid q oticks base p V j v→DH S b off i n cap tid oid q oticks base p V' j v:=by
 intro j v h
 match j with
 | 0 | 1 | 2 | 3 | 4 | 5 | 6 | 7 | 8 | 9 | 10 | 11 | 12 | 13=>exact h
 | 14=>obtain ⟨c,h1,h2,h3,h4,h5⟩:=h; exact ⟨c,h1,h2,Nat.lt_of_lt_of_le h3 hb.size,zf h4 hb h3,fun hp=>zb (h5 hp) hb h3⟩
 | j + 15=>trivial
theorem dh_last {S b off i n cap:Nat} {tid oid q oticks:Int} {base:Nat} {V V':World} {v:Value}:∀ j,j ≠ 15→DH S b off i n cap tid oid q oticks base False V j v→(j = 14→DH S b off i n cap tid oid q oticks base True V' 14 v)→DH S b off i n cap tid oid q oticks base True V' j v:=by
 intro j hj h h14
 match j with
 | 0 | 1 | 2 | 3 | 4 | 5 | 6 | 7 | 8 | 9 | 10 | 11 | 12 | 13=>exact h
 | 14=>exact h14 rfl
 | j + 15=>trivial
theorem hit_mid {V w1:World} {v1:Value} {l:List Od} (hne:l ≠ []) (hl:l.length ≤ 1000) (h6:w1.ownsRow V.heap.size 78 6 v1 (0 + l.length) ([] ++ l.flatMap Od.vs)) (h7:(V.alloc (Obj.cells #[] 78)).grownBy w1 (Value.slice (some ⟨V.heap.size,0,none⟩) 0 0).ownBlock) :
  ∃ g cp,v1 = .slice (some ⟨g,0,none⟩) l.length cp∧l.length ≤ cp∧V.heap.size ≤ g∧g < w1.heap.size∧ORow w1 V.heap.size v1 l∧Below V.heap.size V w1:=by
 have ho:ORow w1 V.heap.size v1 l:=by
  show w1.ownsRow _ _ _ _ l.length _
  simpa using h6
 obtain ⟨g,cp,e,h1,h2,h3⟩:=zbB ho hne
 exact ⟨g,cp,e,h1,h2,h3,ho,((Below.refl _ _).alloc (Nat.le_refl _) _).grown h7 (by rw [ze]; omega) (fun k hk=>by simp [Value.ownBlock] at hk; omega)⟩
theorem row_here {W:World} {B g n cp i:Nat} {l:List Od} {o:Od} (h:ORow W B (.slice (some ⟨g,0,none⟩) n cp) l) (hl:l.length ≤ 1000) (hi:l[i]? = some o):W.rangeAt g (i * 6) o.vs∧∀ j,j < 6→W.frozen? ⟨g,i * 6 + j,none⟩ = false:=by
 obtain ⟨a',c',e,_,hc⟩:=zM h (by omega)
 obtain ⟨b',off',e2,_,hc⟩:=hc (by rintro rfl; simp at hi)
 rw [e2] at e
 simp only [Value.slice.injEq,Option.some.injEq,Addr.mk.injEq,and_true] at e
 obtain ⟨⟨rfl,rfl⟩,-⟩:=e
 refine ⟨by simpa using hc i o hi,fun j hj=>?_⟩
 rcases h.2 with ⟨h1,_⟩ | ⟨g',cap',cur,h1,_,h3,h4,_,h5,_⟩
 ·cases h1
 ·simp only [Value.slice.injEq,Option.some.injEq,Addr.mk.injEq,and_true] at h1
  obtain ⟨rfl,-⟩:=h1
  have hil:=(List.getElem?_eq_some_iff.1 hi).1
  have:=(zaq h3 (Nat.le_refl _) (i * 6 + j) (by rw [h5]; omega)).2
  rwa [Nat.zero_add] at this
theorem range_left {W:World} {S g k:Nat} {a0 a1 a2 a3 a4 a5 x y:Value} (h:W.rangeAt S 0 [a0,a1,a2,a3,a4,a5]) (hg:g ≠ S):((W.setCell ⟨g,k,none⟩ x).setCell ⟨S,3,none⟩ y).rangeAt S 0 [a0,a1,a2,y,a4,a5]:=by
 have ho:∀ j,j ≠ 3→((W.setCell ⟨g,k,none⟩ x).setCell ⟨S,3,none⟩ y).cell? ⟨S,j,none⟩ = W.cell? ⟨S,j,none⟩:=fun j hj=>(World.cell?_setCell_other _ _ _ _ (zX (fun e=>hj e.symm))).trans (World.cell?_setCell_other _ _ _ _ (fun e=>hg (congrArg Addr.block e)))
 intro j u hj
 rw [Nat.zero_add]
 match j,hj with
 | 0,hj=>cases hj; exact (ho 0 (by omega)).trans (h 0 _ rfl)
 | 1,hj=>cases hj; exact (ho 1 (by omega)).trans (h 1 _ rfl)
 | 2,hj=>cases hj; exact (ho 2 (by omega)).trans (h 2 _ rfl)
 | 3,hj=>cases hj; exact World.cell?_setCell_same _ _ _ ((World.cell?_setCell_other _ _ _ _ (fun e=>hg (congrArg Addr.block e))).trans (h 3 _ rfl))
 | 4,hj=>cases hj; exact (ho 4 (by omega)).trans (h 4 _ rfl)
 | 5,hj=>cases hj; exact (ho 5 (by omega)).trans (h 5 _ rfl)
 | j + 6,hj=>simp at hj
theorem range_far {W:World} {b o p k:Nat} {cs:List Value} {x:Value} (h:W.rangeAt b o cs) (hb:p ≠ b):(W.setCell ⟨p,k,none⟩ x).rangeAt b o cs:=fun j u hj =>
 (World.cell?_setCell_other _ _ _ _ (fun e=>hb (congrArg Addr.block e))).trans (h j u hj)
set_option maxRecDepth 100000 in
set_option maxHeartbeats 12800000 in
theorem l04Hit_any (v:Value) (l:List Od) (t o:Od) (i:Nat) (w:World) (hr:RdR Od.vs 6 w v l) (hn:l.length ≤ 1000) (hio:l[i]? = some o) (ht0:0 ≤ t.left) (ht1:t.left ≤ 1000000) (ho0:0 ≤ o.left) (ho1:o.left ≤ 1000000) :
  Calls Tryz.prog 61 #[v,.agg #[.int .i64 t.id,.int .i64 t.side,.int .i64 t.ticks,.int .i64 t.left,.int .i64 t.life,.string t.tag],.int .i64 i] w fun e w'=>∃ v',e = .returned (.tuple #[v',.agg (Od.vs { t with left:=t.left - min t.left o.left }).toArray,.agg (Ev.vs (trE t.id o.id (min t.left o.left) o.ticks)).toArray])∧ORow w' w.heap.size v' (zau l i o (min t.left o.left))∧Below w.heap.size w w':=by
 obtain ⟨i0,hi0,hz0,hz1,hz2⟩:=info_parts Tryz.infoOrder
 have hil:=(List.getElem?_eq_some_iff.1 hio).1
 have hne:l ≠ []:=by rintro rfl; simp at hio
 have HNE:=hide hne
 obtain ⟨a,cap,rfl,hlen,hc⟩:=hr
 obtain ⟨b,off,rfl,hb,hcl⟩:=hc hne
 have HCL:=hide hcl
 have HIO:=hide hio
 obtain ⟨tid,tside,tticks,tleft,tlife,ttag⟩:=t
 obtain ⟨oid,oside,oticks,oleft,olife,otag⟩:=o
 simp only at ht0 ht1 ho0 ho1 ⊢
 generalize hq:min tleft oleft = q
 have hqa:0 ≤ q:=by omega
 have hqb:q ≤ tleft:=by omega
 have hqc:q ≤ oleft:=by omega
 have HQ:=hide hq
 clear hcl hc hio hne hq hlen
 have hs1:(w.alloc (Obj.cells #[.int .i64 tid,.int .i64 tside,.int .i64 tticks,.int .i64 tleft,.int .i64 tlife,.string ttag] 78)).heap.size = w.heap.size + 1:=ze _ _
 have hs2:((w.alloc (Obj.cells #[.int .i64 tid,.int .i64 tside,.int .i64 tticks,.int .i64 tleft,.int .i64 tlife,.string ttag] 78)).alloc (Obj.cells #[.int .i64 0,.int .i64 0,.int .i64 0,.int .i64 0,.int .i64 0,.string ⟨#[]⟩] 78)).heap.size = w.heap.size + 1 + 1:=by rw [ze,hs1]
 have hs3:(((w.alloc (Obj.cells #[.int .i64 tid,.int .i64 tside,.int .i64 tticks,.int .i64 tleft,.int .i64 tlife,.string ttag] 78)).alloc (Obj.cells #[.int .i64 0,.int .i64 0,.int .i64 0,.int .i64 0,.int .i64 0,.string ⟨#[]⟩] 78)).alloc (Obj.cells #[.int .i64 0,.int .i64 0,.int .i64 0,.int .i64 0,.int .i64 0,.int .i64 0,.int .i64 0,.float .f64 0,.string ⟨#[]⟩,.int .i64 0,.int .i64 0,.int .i64 0,.int .i64 0,.int .i64 0] 43)).heap.size = w.heap.size + 1 + 1 + 1:=by rw [ze,hs2]
 have r1:=zh w [.int .i64 tid,.int .i64 tside,.int .i64 tticks,.int .i64 tleft,.int .i64 tlife,.string ttag] 78
 have t1:=zw w [.int .i64 tid,.int .i64 tside,.int .i64 tticks,.int .i64 tleft,.int .i64 tlife,.string ttag] 78
 have t2:=zw (w.alloc (Obj.cells #[.int .i64 tid,.int .i64 tside,.int .i64 tticks,.int .i64 tleft,.int .i64 tlife,.string ttag] 78)) [.int .i64 0,.int .i64 0,.int .i64 0,.int .i64 0,.int .i64 0,.string ⟨#[]⟩] 78
 have t3:=zw ((w.alloc (Obj.cells #[.int .i64 tid,.int .i64 tside,.int .i64 tticks,.int .i64 tleft,.int .i64 tlife,.string ttag] 78)).alloc (Obj.cells #[.int .i64 0,.int .i64 0,.int .i64 0,.int .i64 0,.int .i64 0,.string ⟨#[]⟩] 78)) [.int .i64 0,.int .i64 0,.int .i64 0,.int .i64 0,.int .i64 0,.int .i64 0,.int .i64 0,.float .f64 0,.string ⟨#[]⟩,.int .i64 0,.int .i64 0,.int .i64 0,.int .i64 0,.int .i64 0] 43
 rw [hs1] at t2
 rw [hs2] at t3
 have b1:Below w.heap.size w (w.alloc (Obj.cells #[.int .i64 tid,.int .i64 tside,.int .i64 tticks,.int .i64 tleft,.int .i64 tlife,.string ttag] 78)):=(Below.refl _ _).alloc (Nat.le_refl _) _
 have b2:Below (w.heap.size + 1) (w.alloc (Obj.cells #[.int .i64 tid,.int .i64 tside,.int .i64 tticks,.int .i64 tleft,.int .i64 tlife,.string ttag] 78)) ((w.alloc (Obj.cells #[.int .i64 tid,.int .i64 tside,.int .i64 tticks,.int .i64 tleft,.int .i64 tlife,.string ttag] 78)).alloc (Obj.cells #[.int .i64 0,.int .i64 0,.int .i64 0,.int .i64 0,.int .i64 0,.string ⟨#[]⟩] 78)):=(Below.refl _ _).alloc (by omega) _
 have b3:Below (w.heap.size + 1 + 1) ((w.alloc (Obj.cells #[.int .i64 tid,.int .i64 tside,.int .i64 tticks,.int .i64 tleft,.int .i64 tlife,.string ttag] 78)).alloc (Obj.cells #[.int .i64 0,.int .i64 0,.int .i64 0,.int .i64 0,.int .i64 0,.string ⟨#[]⟩] 78)) (((w.alloc (Obj.cells #[.int .i64 tid,.int .i64 tside,.int .i64 tticks,.int .i64 tleft,.int .i64 tlife,.string ttag] 78)).alloc (Obj.cells #[.int .i64 0,.int .i64 0,.int .i64 0,.int .i64 0,.int .i64 0,.string ⟨#[]⟩] 78)).alloc (Obj.cells #[.int .i64 0,.int .i64 0,.int .i64 0,.int .i64 0,.int .i64 0,.int .i64 0,.int .i64 0,.float .f64 0,.string ⟨#[]⟩,.int .i64 0,.int .i64 0,.int .i64 0,.int .i64 0,.int .i64 0] 43)):=(Below.refl _ _).alloc (by omega) _
 have b23:=b2.trans (b3.mono (by omega))
 have HX:Hid (World.rangeAt _ w.heap.size 0 _∧World.there _ w.heap.size 0 6∧World.there _ (w.heap.size + 1) 0 6∧World.there _ (w.heap.size + 1 + 1) 0 14):=⟨zb r1 b23 (by omega),zf t1 b23 (by omega),zf t2 b3 (by omega),t3⟩
 have HB3:=hide (b1.trans (b23.mono (by omega)))
 have HS3:=hide hs3
 clear hs1 hs2 hs3 r1 t1 t2 t3 b1 b2 b3 b23
 go_enter Tryz.func61,Tryz.ntmps61
 refine wp_seq_k fun K hK=>?_
 have HK1:=hide hK
 clear hK
 go_wp2_with fail
 refine za HK1 _ _ ?_
 clear HK1
 generalize (((w.alloc (Obj.cells #[.int .i64 tid,.int .i64 tside,.int .i64 tticks,.int .i64 tleft,.int .i64 tlife,.string ttag] 78)).alloc (Obj.cells #[.int .i64 0,.int .i64 0,.int .i64 0,.int .i64 0,.int .i64 0,.string ⟨#[]⟩] 78)).alloc (Obj.cells #[.int .i64 0,.int .i64 0,.int .i64 0,.int .i64 0,.int .i64 0,.int .i64 0,.int .i64 0,.float .f64 0,.string ⟨#[]⟩,.int .i64 0,.int .i64 0,.int .i64 0,.int .i64 0,.int .i64 0] 43)) = X at HX HB3 HS3 ⊢
 have HX:Hid (X.rangeAt w.heap.size 0 [.int .i64 tid,.int .i64 tside,.int .i64 tticks,.int .i64 tleft,.int .i64 tlife,.string ttag]∧X.there w.heap.size 0 6∧X.there (w.heap.size + 1) 0 6∧X.there (w.heap.size + 1 + 1) 0 14):=za HX
 have t3:X.cell? ⟨w.heap.size,3,none⟩ = some (.int .i64 tleft):=(za HX).1 3 _ rfl
 have HCX:Hid (∀ j c,l[j]? = some c→X.rangeAt b (off + j * 6) c.vs):=fun j c hj=>zb (za HCL j c hj) (za HB3) hb
 have o3:X.cell? ⟨b,off + i * 6 + 3,none⟩ = some (.int .i64 oleft):=za HCX i _ (za HIO) 3 _ rfl
 have hil':(i:Int) < l.length:=by omega
 have hii:(0:Int) ≤ i:=by omega
 refine wp_seq_k fun K hK=>?_
 have HK1:=hide hK
 clear hK
 go_wp2_with fail
 go_quiet (fail)
 refine za HK1 _ _ ?_
 clear HK1
 have hif:(if oleft < tleft then oleft else tleft) = q:=by have:=za HQ; split <;> omega
 simp only [hif]
 have HX1:Hid ((X.drewN nq).rangeAt w.heap.size 0 [.int .i64 tid,.int .i64 tside,.int .i64 tticks,.int .i64 tleft,.int .i64 tlife,.string ttag]∧(X.drewN nq).there w.heap.size 0 6∧(X.drewN nq).there (w.heap.size + 1) 0 6∧(X.drewN nq).there (w.heap.size + 1 + 1) 0 14):=za HX
 have HB1:Hid (Below w.heap.size w (X.drewN nq)):=zai (za HB3) _
 have HS1:Hid ((X.drewN nq).heap.size = w.heap.size + 1 + 1 + 1):=za HS3
 have HC1:Hid (∀ j c,l[j]? = some c→(X.drewN nq).rangeAt b (off + j * 6) c.vs):=za HCX
 clear t3 o3 hif HX HB3 HS3 HCX
 generalize X.drewN nq = Y at HX1 HB1 HS1 HC1 ⊢
 refine wp_seq_k fun K hK=>?_
 have HK1:=hide hK
 clear hK
 refine zo (RG Y (fun f=>{ tmps:=#[.slice (some ⟨b,off,none⟩) l.length cap,.agg #[.int .i64 tid,.int .i64 tside,.int .i64 tticks,.int .i64 tleft,.int .i64 tlife,.string ttag],.int .i64 i,undef,.pointer (some ⟨w.heap.size,0,none⟩),undef,.slice none 0 0,.pointer (some ⟨w.heap.size + 1,0,none⟩),.pointer (some ⟨w.heap.size + 1 + 1,0,none⟩),.int .i64 q,f 14,undef,.pointer (some ⟨w.heap.size,3,none⟩),.int .i64 tleft,.slice (some ⟨b,off,none⟩) l.length cap,.int .i64 i,.pointer (some ⟨b,off + i * 6,none⟩),.pointer (some ⟨b,off + i * 6 + 3,none⟩),.int .i64 oleft,.int .i64 q,f 0,f 1,f 2,f 3,f 4,f 5,f 6,f 7,f 8,f 9,f 10,f 11,f 12,f 13,undef,undef,undef,undef,undef,undef,undef,undef,undef,undef,undef,undef,undef,undef,undef,undef,undef,undef,undef,undef,undef,undef,undef,undef,undef,undef,undef,undef,undef,undef,undef,undef,undef,undef,undef,undef],defers:=[] }) 15 (DH w.heap.size b off i l.length cap tid oid q oticks Y.heap.size)) (by kernel_rfl) ?_ ?_ ?_
 ·exact ⟨fun _=>undef,rfl,⟨rfl,rfl,rfl,Nat.le_refl _,fun _ _=>rfl⟩,fun j hj=>by rw [List.getElem?_replicate] at hj; split at hj <;> simp at hj⟩
 ·rintro x A V ⟨f,rfl,hbel,hD⟩ hx hrd
  have hallx:=zab hrd hx (acyc _ (by kernel_rfl))
  have k15:x[15]? = some true:=hallx 15 (by simp)
  obtain ⟨c,e14,hc0,hc1,-,hcr⟩:=hD 14 (hallx 14 (by simp))
  have HCR:=hide (hcr k15)
  refine za HK1 _ _ ?_
  clear HK1
  have HS:=za HS1
  have hsv:=hbel.size
  have HXV:Hid (V.rangeAt w.heap.size 0 [.int .i64 tid,.int .i64 tside,.int .i64 tticks,.int .i64 tleft,.int .i64 tlife,.string ttag]∧V.there w.heap.size 0 6∧V.there (w.heap.size + 1) 0 6∧V.there (w.heap.size + 1 + 1) 0 14):=⟨zb (za HX1).1 hbel (by omega),zf (za HX1).2.1 hbel (by omega),zf (za HX1).2.2.1 hbel (by omega),zf (za HX1).2.2.2 hbel (by omega)⟩
  have HBV:=hide ((za HB1).trans (hbel.mono (za HB1).size))
  have hbY:b < Y.heap.size:=by omega
  have HCV:Hid (∀ j c,l[j]? = some c→V.rangeAt b (off + j * 6) c.vs):=fun j c hj=>zb (za HC1 j c hj) hbel hbY
  have hcS:w.heap.size + 1 + 1 < c:=by omega
  simp only [e14]
  generalize f 0 = u20
  generalize f 1 = u21
  generalize f 2 = u22
  generalize f 3 = u23
  generalize f 4 = u24
  generalize f 5 = u25
  generalize f 6 = u26
  generalize f 7 = u27
  generalize f 8 = u28
  generalize f 9 = u29
  generalize f 10 = u30
  generalize f 11 = u31
  generalize f 12 = u32
  generalize f 13 = u33
  clear hD hallx k15 e14 hcr hrd hx hbel hc0 HX1 HB1 HC1 HS1 HS
  have HO0:=hide (World.ownsRow_made (base:=V.heap.size) (e:=78) (size:=6) V #[] 0 (Nat.le_refl _) (by decide) rfl)
  have HSRC:Hid (∀ j u,(l.flatMap Od.vs)[j]? = some u→(V.alloc (Obj.cells #[] 78)).cell? ((⟨b,off,none⟩:Addr).add j) = some u):=fun j u hu=>by
   have h:=zbq (W:=V.alloc (Obj.cells #[] 78)) (g:=b) (off:=off) (l:=l) (fun i c hi=>zb (za HCV i c hi) ((Below.refl V.heap.size V).alloc (Nat.le_refl _) _) (by omega)) 0 l.length j u (by simpa using hu)
   simpa using h
  refine wp_seq_k fun K hK=>?_
  have HK1:=hide hK
  clear hK
  go_wp2_with (at_builtin; go_must (refine wpList_append_own _ rfl _ _ 44 rfl V.heap.size 78 i0 _ 6 56 Tryz.underlying44 hi0 hz0 hz1 hz2 rfl (by decide) (.slice (some ⟨V.heap.size,0,none⟩) 0 0) 0 [] rfl (za HO0) ⟨b,off,none⟩ l.length cap (l.flatMap Od.vs) rfl (by rw [zJ Od.len]) (za HSRC) (zaF l) (by unfold maxLen; omega) (by omega) (by simp) ?_); intro v1 w1 hown1 hg1 _; obtain ⟨g,cp,rfl,hcap,hVg,hgw,ho1',hb1⟩:=hit_mid (za HNE) hn hown1 hg1; have HO1:=hide ho1'; have HB1:=hide hb1; clear hown1 hg1 ho1' hb1)
  refine za HK1 _ _ ?_
  clear HK1 HSRC HO0
  have HX1:Hid (w1.rangeAt w.heap.size 0 [.int .i64 tid,.int .i64 tside,.int .i64 tticks,.int .i64 tleft,.int .i64 tlife,.string ttag]∧w1.there w.heap.size 0 6∧w1.there (w.heap.size + 1) 0 6∧w1.there (w.heap.size + 1 + 1) 0 14):=⟨zb (za HXV).1 (za HB1) (by omega),zf (za HXV).2.1 (za HB1) (by omega),zf (za HXV).2.2.1 (za HB1) (by omega),zf (za HXV).2.2.2 (za HB1) (by omega)⟩
  have HE1:=hide (zb (za HCR) (za HB1) hc1)
  have HBW:=hide ((za HBV).trans ((za HB1).mono (za HBV).size))
  have hrow:=row_here (za HO1) hn (za HIO)
  have c3:w1.cell? ⟨g,i * 6 + 3,none⟩ = some (.int .i64 oleft):=hrow.1 3 _ rfl
  have f3:w1.frozen? ⟨g,i * 6 + 3,none⟩ = false:=hrow.2 3 (by omega)
  have t3:w1.cell? ⟨w.heap.size,3,none⟩ = some (.int .i64 tleft):=(za HX1).1 3 _ rfl
  have s3:w1.frozen? ⟨w.heap.size,3,none⟩ = false:=by have:=((za HX1).2.1 3 (by omega)).2; rwa [Nat.zero_add] at this
  have hgS:g ≠ w.heap.size:=by omega
  have hSg:w.heap.size ≠ g:=by omega
  have hq1:-9223372036854775808 ≤ oleft - q:=by omega
  have hq2:oleft - q ≤ 9223372036854775807:=by omega
  have hq3:-9223372036854775808 ≤ tleft - q:=by omega
  have hq4:tleft - q ≤ 9223372036854775807:=by omega
  clear hrow
  refine wp_seq_k fun K hK=>?_
  have HK1:=hide hK
  clear hK
  go_wp2_with fail
  refine za HK1 _ _ ?_
  clear HK1
  refine wp_seq_k fun K hK=>?_
  have HK1:=hide hK
  clear hK
  go_wp2_with fail
  refine za HK1 _ _ ?_
  clear HK1
  have HZO:Hid (ORow ((w1.setCell ⟨g,i * 6 + 3,none⟩ (.int .i64 (oleft - q))).setCell ⟨w.heap.size,3,none⟩ (.int .i64 (tleft - q))) V.heap.size (.slice (some ⟨g,0,none⟩) l.length cp) (l.set i ⟨oid,oside,oticks,oleft - q,olife,otag⟩)):=zt (oRow_left (za HO1) rfl (za HIO) (oleft - q)).1 (by simp [Value.ownBlock]; omega) _ _
  have HZT:=hide (range_left (k:=i * 6 + 3) (x:=.int .i64 (oleft - q)) (y:=.int .i64 (tleft - q)) (za HX1).1 hgS)
  have HZE:=hide (range_far (p:=w.heap.size) (k:=3) (x:=.int .i64 (tleft - q)) (range_far (p:=g) (k:=i * 6 + 3) (x:=.int .i64 (oleft - q)) (za HE1) (by omega)) (by omega))
  have HZ1:=hide (zC (c:=w.heap.size) (j:=3) (u:=.int .i64 (tleft - q)) (zC (c:=g) (j:=i * 6 + 3) (u:=.int .i64 (oleft - q)) (za HX1).2.2.1))
  have HZ2:=hide (zC (c:=w.heap.size) (j:=3) (u:=.int .i64 (tleft - q)) (zC (c:=g) (j:=i * 6 + 3) (u:=.int .i64 (oleft - q)) (za HX1).2.2.2))
  have HZB:=hide (((za HBW).setCell (p:=⟨g,i * 6 + 3,none⟩) (by simp; omega) (.int .i64 (oleft - q))).setCell (p:=⟨w.heap.size,3,none⟩) (Nat.le_refl _) (.int .i64 (tleft - q)))
  have hgz:g < ((w1.setCell ⟨g,i * 6 + 3,none⟩ (.int .i64 (oleft - q))).setCell ⟨w.heap.size,3,none⟩ (.int .i64 (tleft - q))).heap.size:=by simp [World.setCell]; exact hgw
  have z3:((w1.setCell ⟨g,i * 6 + 3,none⟩ (.int .i64 (oleft - q))).setCell ⟨w.heap.size,3,none⟩ (.int .i64 (tleft - q))).cell? ⟨g,i * 6 + 3,none⟩ = some (.int .i64 (oleft - q)):=(World.cell?_setCell_other _ _ _ _ (fun e=>hSg (congrArg Addr.block e))).trans (World.cell?_setCell_same _ _ _ c3)
  generalize ((w1.setCell ⟨g,i * 6 + 3,none⟩ (.int .i64 (oleft - q))).setCell ⟨w.heap.size,3,none⟩ (.int .i64 (tleft - q))) = Z at HZO HZT HZE HZ1 HZ2 HZB hgz z3 ⊢
  clear c3 f3 t3 s3 HX1 HE1 HBW HO1 HB1 HXV HCR HBV HCV hgw
  refine wp_seq_k fun K hK=>?_
  have HK1:=hide hK
  clear hK
  have HT:Hid (∀ (u0 u1 u2 u3 u5 u6 u9 u12 u13 u14 u15 u16 u17 u18 u19 u20 u21 u22 u23 u24 u25 u26 u27 u28 u29 u30 u31 u32 u33 u34 u35 u36 u37 u38 u39 u40 u41 u42 u43 u44 u45 u46 u47 u48 u49 u50 u51 u52 u53 u54 u55 u56 u57 u58 u59 u60 u61 u62 u63 u64 u65 u66 u67 u68 u69 v11:Value) (Z':World),ORow Z' (w.heap.size + 1 + 1 + 1) v11 (zau l i ⟨oid,oside,oticks,oleft,olife,otag⟩ q)→Below w.heap.size w Z'→Z'.rangeAt w.heap.size 0 [.int .i64 tid,.int .i64 tside,.int .i64 tticks,.int .i64 (tleft - q),.int .i64 tlife,.string ttag]→Z'.there (w.heap.size + 1) 0 6→Z'.there (w.heap.size + 1 + 1) 0 14→Z'.rangeAt c 0 [.int .i64 3,.int .i64 0,.int .i64 0,.int .i64 0,.int .i64 0,.int .i64 0,.int .i64 0,.float .f64 0,.string ⟨#[]⟩,.int .i64 tid,.int .i64 oid,.int .i64 q,.int .i64 oticks,.int .i64 0]→K { tmps:=#[u0,u1,u2,u3,.pointer (some ⟨w.heap.size,0,none⟩),u5,u6,.pointer (some ⟨w.heap.size + 1,0,none⟩),.pointer (some ⟨w.heap.size + 1 + 1,0,none⟩),u9,.pointer (some ⟨c,0,none⟩),v11,u12,u13,u14,u15,u16,u17,u18,u19,u20,u21,u22,u23,u24,u25,u26,u27,u28,u29,u30,u31,u32,u33,u34,u35,u36,u37,u38,u39,u40,u41,u42,u43,u44,u45,u46,u47,u48,u49,u50,u51,u52,u53,u54,u55,u56,u57,u58,u59,u60,u61,u62,u63,u64,u65,u66,u67,u68,u69],defers:=[] } Z'):=by
   intro u0 u1 u2 u3 u5 u6 u9 u12 u13 u14 u15 u16 u17 u18 u19 u20 u21 u22 u23 u24 u25 u26 u27 u28 u29 u30 u31 u32 u33 u34 u35 u36 u37 u38 u39 u40 u41 u42 u43 u44 u45 u46 u47 u48 u49 u50 u51 u52 u53 u54 u55 u56 u57 u58 u59 u60 u61 u62 u63 u64 u65 u66 u67 u68 u69 v11 Z' hO hB hT h1 h2 hE
   refine za HK1 _ _ ?_
   have HO:=hide hO
   have HB:=hide hB
   have HTT:=hide hT
   have HE:=hide hE
   have HH1:=hide h1
   have HH2:=hide h2
   clear hO hB hT hE h1 h2 HK1
   obtain ⟨V0,hV0⟩:∃ V:World,V = { Z' with drawn:=Z'.drawn + 1 }:=⟨_,rfl⟩
   have HO:Hid (ORow V0 (w.heap.size + 1 + 1 + 1) v11 (zau l i ⟨oid,oside,oticks,oleft,olife,otag⟩ q)):=by rw [hV0]; exact za HO
   have HB:Hid (Below w.heap.size w V0):=by rw [hV0]; exact (za HB).trans ⟨rfl,rfl,rfl,Nat.le_refl _,fun _ _=>rfl⟩
   have HTT:Hid (V0.rangeAt w.heap.size 0 [.int .i64 tid,.int .i64 tside,.int .i64 tticks,.int .i64 (tleft - q),.int .i64 tlife,.string ttag]):=by rw [hV0]; exact za HTT
   have HE:Hid (V0.rangeAt c 0 [.int .i64 3,.int .i64 0,.int .i64 0,.int .i64 0,.int .i64 0,.int .i64 0,.int .i64 0,.float .f64 0,.string ⟨#[]⟩,.int .i64 tid,.int .i64 oid,.int .i64 q,.int .i64 oticks,.int .i64 0]):=by rw [hV0]; exact za HE
   have HH1:Hid (V0.there (w.heap.size + 1) 0 6):=by rw [hV0]; exact za HH1
   have HH2:Hid (V0.there (w.heap.size + 1 + 1) 0 14):=by rw [hV0]; exact za HH2
   obtain ⟨V1,hV1⟩:∃ V:World,V = V0.setCells (w.heap.size + 1) 0 [.int .i64 tid,.int .i64 tside,.int .i64 tticks,.int .i64 (tleft - q),.int .i64 tlife,.string ttag]:=⟨_,rfl⟩
   obtain ⟨V2,hV2⟩:∃ V:World,V = V1.setCells (w.heap.size + 1 + 1) 0 [.int .i64 3,.int .i64 0,.int .i64 0,.int .i64 0,.int .i64 0,.int .i64 0,.int .i64 0,.float .f64 0,.string ⟨#[]⟩,.int .i64 tid,.int .i64 oid,.int .i64 q,.int .i64 oticks,.int .i64 0]:=⟨_,rfl⟩
   have HO1:Hid (ORow V1 (w.heap.size + 1 + 1 + 1) v11 (zau l i ⟨oid,oside,oticks,oleft,olife,otag⟩ q)):=by rw [hV1]; exact zax (by omega) _ _ _ (za HO)
   have HB1:Hid (Below w.heap.size w V1):=by rw [hV1]; exact zm _ (by omega) _ _ _ (za HB)
   have HR1:Hid (V1.rangeAt (w.heap.size + 1) 0 [.int .i64 tid,.int .i64 tside,.int .i64 tticks,.int .i64 (tleft - q),.int .i64 tlife,.string ttag]):=by rw [hV1]; exact World.rangeAt_setCells_same V0 _ 0 _ (fun j hj=>za HH1 j hj)
   have HE1:Hid (V1.rangeAt c 0 [.int .i64 3,.int .i64 0,.int .i64 0,.int .i64 0,.int .i64 0,.int .i64 0,.int .i64 0,.float .f64 0,.string ⟨#[]⟩,.int .i64 tid,.int .i64 oid,.int .i64 q,.int .i64 oticks,.int .i64 0]):=by rw [hV1]; exact zcd (za HE) (by omega)
   have HH3:Hid (V1.there (w.heap.size + 1 + 1) 0 14):=by rw [hV1]; exact World.there_setCells (za HH2) _ _ _
   have HOE:Hid (ORow V2 w.heap.size v11 (zau l i ⟨oid,oside,oticks,oleft,olife,otag⟩ q)):=by rw [hV2]; exact zaB (zax (by omega) _ _ _ (za HO1)) (by omega)
   have HBE:Hid (Below w.heap.size w V2):=by rw [hV2]; exact zm _ (by omega) _ _ _ (za HB1)
   have HR2:Hid (V2.rangeAt (w.heap.size + 1 + 1) 0 [.int .i64 3,.int .i64 0,.int .i64 0,.int .i64 0,.int .i64 0,.int .i64 0,.int .i64 0,.float .f64 0,.string ⟨#[]⟩,.int .i64 tid,.int .i64 oid,.int .i64 q,.int .i64 oticks,.int .i64 0]):=by rw [hV2]; exact World.rangeAt_setCells_same V1 _ 0 _ (fun j hj=>za HH3 j hj)
   have HR1:Hid (V2.rangeAt (w.heap.size + 1) 0 [.int .i64 tid,.int .i64 tside,.int .i64 tticks,.int .i64 (tleft - q),.int .i64 tlife,.string ttag]):=by rw [hV2]; exact zcd (za HR1) (by omega)
   have HV0:=hide hV0
   have HV1:=hide hV1
   have HV2:=hide hV2
   clear hV0 hV1 hV2 HO HB HO1 HB1
   go_wp2_with fail
   refine zo (R8A (fun f=>{ tmps:=#[u0,u1,u2,u3,.pointer (some ⟨w.heap.size,0,none⟩),u5,f 3,.pointer (some ⟨w.heap.size + 1,0,none⟩),.pointer (some ⟨w.heap.size + 1 + 1,0,none⟩),u9,.pointer (some ⟨c,0,none⟩),v11,u12,u13,u14,u15,u16,u17,u18,u19,u20,u21,u22,u23,u24,u25,u26,u27,u28,u29,u30,u31,u32,u33,u34,u35,u36,u37,u38,u39,u40,u41,u42,u43,u44,u45,u46,u47,u48,u49,u50,u51,u52,u53,u54,u55,u56,u57,u58,u59,u60,u61,u62,u63,u64,u65,u66,f 0,f 1,f 2],defers:=[] }) v11 (.agg #[.int .i64 tid,.int .i64 tside,.int .i64 tticks,.int .i64 (tleft - q),.int .i64 tlife,.string ttag]) (.agg #[.int .i64 3,.int .i64 0,.int .i64 0,.int .i64 0,.int .i64 0,.int .i64 0,.int .i64 0,.float .f64 0,.string ⟨#[]⟩,.int .i64 tid,.int .i64 oid,.int .i64 q,.int .i64 oticks,.int .i64 0]) V0 V1 V2) (by kernel_rfl) ?_ ?_ ?_
   ·exact ⟨fun j=>if j = 3 then u6 else if j = 0 then u67 else if j = 1 then u68 else u69,rfl,⟨by simp,by simp,by simp,by simp,by simp,fun _=>(za HV0).symm,by simp,by simp⟩⟩
   ·rintro x A V' ⟨f,rfl,hR⟩ hx hrd
    have hallx:=zac hrd hx (by kernel_rfl)
    have e3:=hR.f3 (hallx 3 (by simp))
    have eW:=hR.s2 (hallx 4 (by simp)) (hallx 5 (by simp))
    subst eW
    simp only [e3]
    clear hR hallx e3 hrd hx
    have d0:V'.cell? ⟨w.heap.size + 1,0,none⟩ = some (.int .i64 tid):=za HR1 0 _ rfl
    have d1:V'.cell? ⟨w.heap.size + 1,1,none⟩ = some (.int .i64 tside):=za HR1 1 _ rfl
    have d2:V'.cell? ⟨w.heap.size + 1,2,none⟩ = some (.int .i64 tticks):=za HR1 2 _ rfl
    have d3:V'.cell? ⟨w.heap.size + 1,3,none⟩ = some (.int .i64 (tleft - q)):=za HR1 3 _ rfl
    have d4:V'.cell? ⟨w.heap.size + 1,4,none⟩ = some (.int .i64 tlife):=za HR1 4 _ rfl
    have d5:V'.cell? ⟨w.heap.size + 1,5,none⟩ = some (.string ttag):=za HR1 5 _ rfl
    have e0:V'.cell? ⟨w.heap.size + 1 + 1,0,none⟩ = some (.int .i64 3):=za HR2 0 _ rfl
    have e1:V'.cell? ⟨w.heap.size + 1 + 1,1,none⟩ = some (.int .i64 0):=za HR2 1 _ rfl
    have e2:V'.cell? ⟨w.heap.size + 1 + 1,2,none⟩ = some (.int .i64 0):=za HR2 2 _ rfl
    have e3:V'.cell? ⟨w.heap.size + 1 + 1,3,none⟩ = some (.int .i64 0):=za HR2 3 _ rfl
    have e4:V'.cell? ⟨w.heap.size + 1 + 1,4,none⟩ = some (.int .i64 0):=za HR2 4 _ rfl
    have e5:V'.cell? ⟨w.heap.size + 1 + 1,5,none⟩ = some (.int .i64 0):=za HR2 5 _ rfl
    have e6:V'.cell? ⟨w.heap.size + 1 + 1,6,none⟩ = some (.int .i64 0):=za HR2 6 _ rfl
    have e7:V'.cell? ⟨w.heap.size + 1 + 1,7,none⟩ = some (.float .f64 0):=za HR2 7 _ rfl
    have e8:V'.cell? ⟨w.heap.size + 1 + 1,8,none⟩ = some (.string ⟨#[]⟩):=za HR2 8 _ rfl
    have e9:V'.cell? ⟨w.heap.size + 1 + 1,9,none⟩ = some (.int .i64 tid):=za HR2 9 _ rfl
    have e10:V'.cell? ⟨w.heap.size + 1 + 1,10,none⟩ = some (.int .i64 oid):=za HR2 10 _ rfl
    have e11:V'.cell? ⟨w.heap.size + 1 + 1,11,none⟩ = some (.int .i64 q):=za HR2 11 _ rfl
    have e12:V'.cell? ⟨w.heap.size + 1 + 1,12,none⟩ = some (.int .i64 oticks):=za HR2 12 _ rfl
    have e13:V'.cell? ⟨w.heap.size + 1 + 1,13,none⟩ = some (.int .i64 0):=za HR2 13 _ rfl
    go_wp2_with fail
    try simp only [Exit.inBlock,Exit.then]
    refine bodyPost_ret (by simp [results,Tryz.results61,go_sem,d0,d1,d2,d3,d4,d5,e0,e1,e2,e3,e4,e5,e6,e7,e8,e9,e10,e11,e12,e13]; try rfl) rfl ?_
    exact ⟨v11,rfl,za HOE,za HBE⟩
   ·rintro x A V' i' o' ⟨f,rfl,hR⟩ hcl hx ho hxi hall
    have n5:i' < 5→x[5]? = some false:=fun hlt=>by
     rcases zbP hx (show 5 < 6 by omega) with h | h
     ·exact h
     ·have:=hcl 5 _ rfl h ⟨i',.phase⟩ (by rcases (by omega:i' = 0 ∨ i' = 1 ∨ i' = 2 ∨ i' = 3 ∨ i' = 4) with rfl | rfl | rfl | rfl | rfl <;> simp) rfl
      rw [hxi] at this; cases this
    have n4:i' = 0 ∨ i' = 1 ∨ i' = 3→x[4]? = some false:=fun hlt=>by
     rcases zbP hx (show 4 < 6 by omega) with h | h
     ·exact h
     ·have:=hcl 4 _ rfl h ⟨i',.phase⟩ (by rcases hlt with rfl | rfl | rfl <;> simp) rfl
      rw [hxi] at this; cases this
    have HRR:=hide hR
    clear hcl
    match i',ho with
    | 0,ho =>
     obtain rfl:=Option.some.inj ho
     clear hall hR
     rw [if_pos (by rfl)]
     unfold Oper.wp
     go_simp
     exact ⟨upd f 0 v11,by simp [upd],r8_val (za HRR) 0 _ (by omega) (fun _=>rfl) (by omega) (by omega) (by omega)⟩
    | 1,ho =>
     obtain rfl:=Option.some.inj ho
     have eV:=hR.s0 (n4 (by omega))
     subst eV
     have c0:V'.cell? ⟨w.heap.size,0,none⟩ = some (.int .i64 tid):=za HTT 0 _ rfl
     have c1:V'.cell? ⟨w.heap.size,1,none⟩ = some (.int .i64 tside):=za HTT 1 _ rfl
     have c2:V'.cell? ⟨w.heap.size,2,none⟩ = some (.int .i64 tticks):=za HTT 2 _ rfl
     have c3:V'.cell? ⟨w.heap.size,3,none⟩ = some (.int .i64 (tleft - q)):=za HTT 3 _ rfl
     have c4:V'.cell? ⟨w.heap.size,4,none⟩ = some (.int .i64 tlife):=za HTT 4 _ rfl
     have c5:V'.cell? ⟨w.heap.size,5,none⟩ = some (.string ttag):=za HTT 5 _ rfl
     clear hall hR
     rw [if_pos (by rfl)]
     unfold Oper.wp
     go_simp
     exact ⟨upd f 1 (.agg #[.int .i64 tid,.int .i64 tside,.int .i64 tticks,.int .i64 (tleft - q),.int .i64 tlife,.string ttag]),by simp [upd],r8_val (za HRR) 1 _ (by omega) (by omega) (fun _=>rfl) (by omega) (by omega)⟩
    | 2,ho =>
     obtain rfl:=Option.some.inj ho
     have HEV:Hid (V'.rangeAt c 0 [.int .i64 3,.int .i64 0,.int .i64 0,.int .i64 0,.int .i64 0,.int .i64 0,.int .i64 0,.float .f64 0,.string ⟨#[]⟩,.int .i64 tid,.int .i64 oid,.int .i64 q,.int .i64 oticks,.int .i64 0]):=by
      rcases zbP hx (show 4 < 6 by omega) with h | h
      ·rw [hR.s0 h]; exact za HE
      ·rw [hR.s1 h (n5 (by omega))]; exact za HE1
     have c0:V'.cell? ⟨c,0,none⟩ = some (.int .i64 3):=za HEV 0 _ rfl
     have c1:V'.cell? ⟨c,1,none⟩ = some (.int .i64 0):=za HEV 1 _ rfl
     have c2:V'.cell? ⟨c,2,none⟩ = some (.int .i64 0):=za HEV 2 _ rfl
     have c3:V'.cell? ⟨c,3,none⟩ = some (.int .i64 0):=za HEV 3 _ rfl
     have c4:V'.cell? ⟨c,4,none⟩ = some (.int .i64 0):=za HEV 4 _ rfl
     have c5:V'.cell? ⟨c,5,none⟩ = some (.int .i64 0):=za HEV 5 _ rfl
     have c6:V'.cell? ⟨c,6,none⟩ = some (.int .i64 0):=za HEV 6 _ rfl
     have c7:V'.cell? ⟨c,7,none⟩ = some (.float .f64 0):=za HEV 7 _ rfl
     have c8:V'.cell? ⟨c,8,none⟩ = some (.string ⟨#[]⟩):=za HEV 8 _ rfl
     have c9:V'.cell? ⟨c,9,none⟩ = some (.int .i64 tid):=za HEV 9 _ rfl
     have c10:V'.cell? ⟨c,10,none⟩ = some (.int .i64 oid):=za HEV 10 _ rfl
     have c11:V'.cell? ⟨c,11,none⟩ = some (.int .i64 q):=za HEV 11 _ rfl
     have c12:V'.cell? ⟨c,12,none⟩ = some (.int .i64 oticks):=za HEV 12 _ rfl
     have c13:V'.cell? ⟨c,13,none⟩ = some (.int .i64 0):=za HEV 13 _ rfl
     clear hall hR
     rw [if_pos (by rfl)]
     unfold Oper.wp
     go_simp
     exact ⟨upd f 2 (.agg #[.int .i64 3,.int .i64 0,.int .i64 0,.int .i64 0,.int .i64 0,.int .i64 0,.int .i64 0,.float .f64 0,.string ⟨#[]⟩,.int .i64 tid,.int .i64 oid,.int .i64 q,.int .i64 oticks,.int .i64 0]),by simp [upd],r8_val (za HRR) 2 _ (by omega) (by omega) (by omega) (fun _=>rfl) (by omega)⟩
    | 3,ho =>
     obtain rfl:=Option.some.inj ho
     have g0:=hR.f0 (hall ⟨0,.data⟩ (by simp) rfl)
     clear hall hR
     rw [if_pos (by rfl)]
     unfold Oper.wp
     go_simp
     exact ⟨upd f 3 v11,by simp [upd,g0],r8_val (za HRR) 3 _ (by omega) (by omega) (by omega) (by omega) (fun _=>rfl)⟩
    | 4,ho =>
     obtain rfl:=Option.some.inj ho
     have g1:=hR.f1 (hall ⟨1,.data⟩ (by simp) rfl)
     have eV:=hR.s0 hxi
     subst eV
     have hth:=za HH1
     obtain ⟨y0,z0,q0⟩:=zc hth (j:=0) (by omega)
     obtain ⟨y1,z1,q1⟩:=zc hth (j:=1) (by omega)
     obtain ⟨y2,z2,q2⟩:=zc hth (j:=2) (by omega)
     obtain ⟨y3,z3,q3⟩:=zc hth (j:=3) (by omega)
     obtain ⟨y4,z4,q4⟩:=zc hth (j:=4) (by omega)
     obtain ⟨y5,z5,q5⟩:=zc hth (j:=5) (by omega)
     have n5':=n5 (by omega)
     clear hall hR hth
     rw [if_pos (by rfl)]
     unfold Oper.wp
     go_simp
     have HR4:=r8_4 (za HRR) hxi n5'
     conv at HR4=>arg 9; rw [za HV1]
     exact ⟨f,by simp [g1],HR4⟩
    | 5,ho =>
     obtain rfl:=Option.some.inj ho
     have g2:=hR.f2 (hall ⟨2,.data⟩ (by simp) rfl)
     have k4:x[4]? = some true:=hall ⟨4,.chain⟩ (by simp) rfl
     have eV:=hR.s1 k4 hxi
     subst eV
     have hth:=za HH3
     have HR5:=hide (r8_5 (za HRR) k4 hxi)
     clear HRR hR
     obtain ⟨y0,z0,q0⟩:=zc hth (j:=0) (by omega)
     obtain ⟨y1,z1,q1⟩:=zc hth (j:=1) (by omega)
     obtain ⟨y2,z2,q2⟩:=zc hth (j:=2) (by omega)
     obtain ⟨y3,z3,q3⟩:=zc hth (j:=3) (by omega)
     obtain ⟨y4,z4,q4⟩:=zc hth (j:=4) (by omega)
     obtain ⟨y5,z5,q5⟩:=zc hth (j:=5) (by omega)
     obtain ⟨y6,z6,q6⟩:=zc hth (j:=6) (by omega)
     obtain ⟨y7,z7,q7⟩:=zc hth (j:=7) (by omega)
     obtain ⟨y8,z8,q8⟩:=zc hth (j:=8) (by omega)
     obtain ⟨y9,z9,q9⟩:=zc hth (j:=9) (by omega)
     obtain ⟨y10,z10,q10⟩:=zc hth (j:=10) (by omega)
     obtain ⟨y11,z11,q11⟩:=zc hth (j:=11) (by omega)
     obtain ⟨y12,z12,q12⟩:=zc hth (j:=12) (by omega)
     obtain ⟨y13,z13,q13⟩:=zc hth (j:=13) (by omega)
     have hsf:=sfl
     clear hall hth
     rw [if_pos (by rfl)]
     unfold Oper.wp
     go_simp
     have HR6:=za HR5
     conv at HR6=>arg 9; rw [za HV2]
     exact ⟨upd f 5 (.agg #[.int .i64 3,.int .i64 0,.int .i64 0,.int .i64 0,.int .i64 0,.int .i64 0,.int .i64 0,.float .f64 0,.string ⟨#[]⟩,.int .i64 tid,.int .i64 oid,.int .i64 q,.int .i64 oticks,.int .i64 0]),by simp [upd,g2],HR6⟩
    | i' + 6,ho=>simp at ho
  clear HK1
  by_cases hz:oleft - q = 0
  ·have b0:(oleft - q == 0) = true:=by simpa using hz
   have HH:=hide (hit_same (l:=l) (i:=i) (o:=⟨oid,oside,oticks,oleft,olife,otag⟩) hz)
   clear hz
   generalize hleft:l.set i ⟨oid,oside,oticks,oleft - q,olife,otag⟩ = left at HZO HH
   have hll:left.length = l.length:=by rw [← hleft,List.length_set]
   clear hleft
   have HC7:Hid (∀ j c,left[j]? = some c→Z.rangeAt g (0 + j * 6) c.vs):=fun j c hj=>by
    have:=(row_here (za HZO) (by omega) hj).1
    rwa [Nat.zero_add]
   have hll1:l.length ≤ 1000:=hn
   have hicp:i ≤ cp:=by omega
   have hi1:i + 1 ≤ l.length:=by omega
   have hi1':(i:Int) + 1 ≤ l.length:=by omega
   have hlcp:(l.length:Int) ≤ cp:=by omega
   have h0i:(0:Int) ≤ (i:Int) + 1:=by omega
   go_wp2_with fail
   clear z3
   refine zay (R7A (.slice (some ⟨g,0,none⟩) l.length cp) Z (C7 (.slice (some ⟨g,0,none⟩) l.length cp) g l.length cp i) (left.take i) (left.take i ++ left.drop (i + 1)) (fun f=>{ tmps:=#[.slice (some ⟨b,off,none⟩) l.length cap,.agg #[.int .i64 tid,.int .i64 tside,.int .i64 tticks,.int .i64 tleft,.int .i64 tlife,.string ttag],.int .i64 i,undef,.pointer (some ⟨w.heap.size,0,none⟩),undef,.slice none 0 0,.pointer (some ⟨w.heap.size + 1,0,none⟩),.pointer (some ⟨w.heap.size + 1 + 1,0,none⟩),.int .i64 q,.pointer (some ⟨c,0,none⟩),f 10,.pointer (some ⟨w.heap.size,3,none⟩),.int .i64 tleft,.slice (some ⟨b,off,none⟩) l.length cap,.int .i64 i,.pointer (some ⟨b,off + i * 6,none⟩),.pointer (some ⟨b,off + i * 6 + 3,none⟩),.int .i64 oleft,.int .i64 q,u20,u21,u22,u23,u24,u25,u26,u27,u28,u29,u30,u31,u32,u33,.slice (some ⟨V.heap.size,0,none⟩) 0 0,.slice (some ⟨b,off,none⟩) l.length cap,.slice (some ⟨g,0,none⟩) l.length cp,.slice (some ⟨g,0,none⟩) l.length cp,.int .i64 i,.pointer (some ⟨g,i * 6,none⟩),.pointer (some ⟨g,i * 6 + 3,none⟩),.int .i64 oleft,.int .i64 q,.int .i64 (oleft - q),.pointer (some ⟨g,i * 6,none⟩),.pointer (some ⟨g,i * 6 + 3,none⟩),.pointer (some ⟨w.heap.size,3,none⟩),.int .i64 tleft,.int .i64 q,.int .i64 (tleft - q),.pointer (some ⟨w.heap.size,3,none⟩),.slice (some ⟨g,0,none⟩) l.length cp,.int .i64 i,.pointer (some ⟨g,i * 6,none⟩),.pointer (some ⟨g,i * 6 + 3,none⟩),.int .i64 (oleft - q),.bool true,f 0,f 1,f 2,f 3,f 4,f 5,f 6,f 7,f 8,f 9,undef,undef,undef],defers:=[] })) (by kernel_rfl) ?_ ?_ ?_
   ·exact ⟨fun j=>if j = 10 then .slice (some ⟨g,0,none⟩) l.length cp else undef,rfl,⟨⟨rfl,rfl,rfl,Nat.le_refl _,fun _ _=>rfl⟩,fun j hj=>by rw [List.getElem?_replicate] at hj; split at hj <;> simp at hj,fun _=>rfl,by simp,by simp,by simp,by simp,by simp,by simp,by simp⟩⟩
   ·rintro x A V' ⟨f,rfl,hR⟩ hx hrd
    have hallx:=zab hrd hx (acyc _ (by kernel_rfl))
    have k9:x[9]? = some true:=hallx 9 (by simp)
    have k10:x[10]? = some true:=hallx 10 (by simp)
    have HO9:=hide (hR.m9 k9)
    have e10:f 10 = f 9:=hR.m10 k10
    have HBV:=hide hR.bel
    simp only [e10]
    clear hR hallx k9 k10 e10 hrd hx
    have hsz:=(za HZB).size
    refine za HT _ _ _ _ _ _ _ _ _ _ _ _ _ _ _ _ _ _ _ _ _ _ _ _ _ _ _ _ _ _ _ _ _ _ _ _ _ _ _ _ _ _ _ _ _ _ _ _ _ _ _ _ _ _ _ _ _ _ _ _ _ _ _ _ _ _ _ (by rw [← za HH]; exact zaB (za HO9) (by omega)) ((za HZB).trans ((za HBV).mono hsz)) (zb (za HZT) (za HBV) (by omega)) (zf (za HZ1) (za HBV) (by omega)) (zf (za HZ2) (za HBV) (by omega)) (zb (za HZE) (za HBV) (by omega))
   ·rintro x A V i' o' ⟨f,rfl,hR⟩ hx ho hxi hall
    have HR7:=hide hR
    have n10:i' < 10→x[10]? = some false:=fun hlt=>by
     have h11:10 < x.length:=by rw [hx]; simp
     cases hb:x[10]
     ·rw [List.getElem?_eq_getElem h11,hb]
     ·have:=hR.o10 (by rw [List.getElem?_eq_getElem h11,hb]) i' hlt
      rw [hxi] at this; cases this
    match i',ho with
    | 0,ho =>
     obtain rfl:=Option.some.inj ho
     clear hR hall
     rw [if_pos (by rfl)]
     unfold Oper.wp
     go_simp
     exact ⟨upd f 0 (.slice (some ⟨V.heap.size,0,none⟩) 0 0),by simp [upd],r7_0 (za HR7) hxi (fun _=>trivial)⟩
    | 1,ho =>
     obtain rfl:=Option.some.inj ho
     have s5:f 10 = .slice (some ⟨g,0,none⟩) l.length cp:=hR.s5 (n10 (by omega))
     clear hR hall
     rw [if_pos (by rfl)]
     unfold Oper.wp
     go_simp
     exact ⟨upd f 1 (.slice (some ⟨g,0,none⟩) l.length cp),by simp [upd,s5],zbd (za HR7) 1 _ rfl (by decide) (by decide) (by decide) (by decide)⟩
    | 2,ho =>
     obtain rfl:=Option.some.inj ho
     clear hR hall
     rw [if_pos (by rfl)]
     unfold Oper.wp
     go_simp
     exact ⟨upd f 2 (.int .i64 i),by simp [upd],zbd (za HR7) 2 _ rfl (by decide) (by decide) (by decide) (by decide)⟩
    | 3,ho =>
     obtain rfl:=Option.some.inj ho
     have g1:C7 (.slice (some ⟨g,0,none⟩) l.length cp) g l.length cp i 1 (f 1):=hR.c 1 (hall ⟨1,.data⟩ (by simp) rfl)
     have g2:C7 (.slice (some ⟨g,0,none⟩) l.length cp) g l.length cp i 2 (f 2):=hR.c 2 (hall ⟨2,.data⟩ (by simp) rfl)
     simp only [C7] at g1 g2
     clear hR hall
     rw [if_pos (by rfl)]
     unfold Oper.wp
     go_simp
     exact ⟨upd f 3 (.slice (some ⟨g,0,none⟩) i cp),by simp [upd,g1,g2],zbd (za HR7) 3 _ rfl (by decide) (by decide) (by decide) (by decide)⟩
    | 4,ho =>
     obtain rfl:=Option.some.inj ho
     have g3:C7 (.slice (some ⟨g,0,none⟩) l.length cp) g l.length cp i 3 (f 3):=hR.c 3 (hall ⟨3,.data⟩ (by simp) rfl)
     have k0:x[0]? = some true:=hall ⟨0,.data⟩ (by simp) rfl
     have HCV:Hid (∀ j c,left[j]? = some c→V.rangeAt g (0 + j * 6) c.vs):=fun j c hj=>zb (za HC7 j c hj) hR.bel hgz
     simp only [C7] at g3
     clear hR hall
     rw [if_pos (by rfl)]
     refine wp_append_own V (.tmp 57) (.tmp 60) 44 rfl Z.heap.size 78 i0 _ 6 56 Tryz.underlying44 hi0 hz0 hz1 hz2 rfl (by decide) (f 0) 0 [] rfl ((za HR7).m0 k0 hxi) ⟨g,0,none⟩ i cp ((left.take i).flatMap Od.vs) g3 (by rw [zJ Od.len,List.length_take]; congr 1; omega) (by simpa using zbq (W:=V) (g:=g) (off:=0) (l:=left) (za HCV) 0 i) (zaF _) (by unfold maxLen; omega) (by omega) (za HR7).bel.size ?_
     intro v' w' hown hgr _
     refine ⟨upd f 4 v',rfl,r7_4 (za HR7) k0 hxi (fun _=>trivial) ?_ hgr⟩
     have hlen:(left.take i).length = 0 + i:=by rw [List.length_take]; omega
     show w'.ownsRow _ _ _ _ (left.take i).length _
     rw [hlen]; simpa using hown
    | 5,ho =>
     obtain rfl:=Option.some.inj ho
     have s5:f 10 = .slice (some ⟨g,0,none⟩) l.length cp:=hR.s5 (n10 (by omega))
     clear hR hall
     rw [if_pos (by rfl)]
     unfold Oper.wp
     go_simp
     exact ⟨upd f 5 (.slice (some ⟨g,0,none⟩) l.length cp),by simp [upd,s5],zbd (za HR7) 5 _ rfl (by decide) (by decide) (by decide) (by decide)⟩
    | 6,ho =>
     obtain rfl:=Option.some.inj ho
     clear hR hall
     rw [if_pos (by rfl)]
     unfold Oper.wp
     go_simp
     exact ⟨upd f 6 (.int .i64 i),by simp [upd],zbd (za HR7) 6 _ rfl (by decide) (by decide) (by decide) (by decide)⟩
    | 7,ho =>
     obtain rfl:=Option.some.inj ho
     have g6:C7 (.slice (some ⟨g,0,none⟩) l.length cp) g l.length cp i 6 (f 6):=hR.c 6 (hall ⟨6,.data⟩ (by simp) rfl)
     simp only [C7] at g6
     have hwr:IntKind.i64.wrap ((i:Int) + 1) = (i:Int) + 1:=by rw [IntKind.wrap_i64]; omega
     clear hR hall
     rw [if_pos (by rfl)]
     unfold Oper.wp
     go_simp
     exact ⟨upd f 7 (.int .i64 ((i:Int) + 1)),by simp [upd,g6],zbd (za HR7) 7 _ rfl (by decide) (by decide) (by decide) (by decide)⟩
    | 8,ho =>
     obtain rfl:=Option.some.inj ho
     have g5:C7 (.slice (some ⟨g,0,none⟩) l.length cp) g l.length cp i 5 (f 5):=hR.c 5 (hall ⟨5,.data⟩ (by simp) rfl)
     have g7:C7 (.slice (some ⟨g,0,none⟩) l.length cp) g l.length cp i 7 (f 7):=hR.c 7 (hall ⟨7,.data⟩ (by simp) rfl)
     simp only [C7] at g5 g7
     clear hR hall
     by_cases hcp:cp = i + 1
     ·subst hcp
      rw [if_pos (by rfl)]
      unfold Oper.wp
      go_simp
      exact ⟨upd f 8 (.slice (some ⟨g,0,none⟩) (l.length - (i + 1)) 0),by simp [upd,g5,g7]; omega,zbd (za HR7) 8 _ ⟨_,_,rfl,fun h=>by omega⟩ (by decide) (by decide) (by decide) (by decide)⟩
     ·rw [if_pos (by rfl)]
      unfold Oper.wp
      go_simp
      exact ⟨upd f 8 (.slice (some ⟨g,(i + 1) * 6,none⟩) (l.length - (i + 1)) (cp - (i + 1))),by simp [upd,g5,g7],zbd (za HR7) 8 _ ⟨_,_,rfl,fun h=>rfl⟩ (by decide) (by decide) (by decide) (by decide)⟩
    | 9,ho =>
     obtain rfl:=Option.some.inj ho
     have g8:C7 (.slice (some ⟨g,0,none⟩) l.length cp) g l.length cp i 8 (f 8):=hR.c 8 (hall ⟨8,.data⟩ (by simp) rfl)
     have k4:x[4]? = some true:=hall ⟨4,.data⟩ (by simp) rfl
     have HCV:Hid (∀ j c,left[j]? = some c→V.rangeAt g (0 + j * 6) c.vs):=fun j c hj=>zb (za HC7 j c hj) hR.bel hgz
     obtain ⟨ad8,c8,g8,had⟩:=g8
     clear hR hall
     have hsrc8:∀ j u,((left.drop (i + 1)).flatMap Od.vs)[j]? = some u→V.cell? (ad8.add j) = some u:=by
      intro j u hu
      by_cases hlt:i + 1 < l.length
      ·rw [had hlt]
       have:=zbq (W:=V) (g:=g) (off:=0) (l:=left) (za HCV) (i + 1) (l.length - (i + 1)) j u (by rw [List.take_of_length_le (by simp [hll])]; exact hu)
       simpa using this
      ·rw [List.drop_of_length_le (by omega)] at hu; simp at hu
     rw [if_pos (by rfl)]
     refine wp_append_own V (.tmp 61) (.tmp 65) 44 rfl Z.heap.size 78 i0 _ 6 56 Tryz.underlying44 hi0 hz0 hz1 hz2 rfl (by decide) (f 4) (left.take i).length ((left.take i).flatMap Od.vs) rfl ((za HR7).m4 k4 hxi) ad8 (l.length - (i + 1)) c8 ((left.drop (i + 1)).flatMap Od.vs) g8 (by rw [zJ Od.len,List.length_drop,hll]) hsrc8 (zaF _) (by unfold maxLen; rw [List.length_take]; omega) (by rw [List.length_take]; omega) (za HR7).bel.size ?_
     intro v' w' hown hgr _
     refine ⟨upd f 9 v',rfl,r7_9 (za HR7) k4 hxi (fun _=>trivial) ?_ hgr⟩
     show w'.ownsRow _ _ _ _ (left.take i ++ left.drop (i + 1)).length _
     rw [List.length_append,List.length_drop,hll,List.flatMap_append]
     exact hown
    | 10,ho =>
     obtain rfl:=Option.some.inj ho
     have hA:∀ j,j < 10→x[j]? = some true:=fun j hj=>hall ⟨j,.phase⟩ (by
      match j,hj with
      | 0,_=>simp
      | 1,_=>simp
      | 2,_=>simp
      | 3,_=>simp
      | 4,_=>simp
      | 5,_=>simp
      | 6,_=>simp
      | 7,_=>simp
      | 8,_=>simp
      | 9,_=>simp
      | n + 10,h=>omega) rfl
     clear hR hall
     rw [if_pos (by rfl)]
     unfold Oper.wp
     go_simp
     exact ⟨upd f 10 (f 9),by simp [upd],r7_10 (za HR7) hA hxi (fun _=>trivial)⟩
    | n + 11,ho=>simp at ho
  ·have b0:(oleft - q == 0) = false:=by simpa using hz
   have HH:=hide (hit_less (l:=l) (i:=i) (o:=⟨oid,oside,oticks,oleft,olife,otag⟩) hz)
   clear hz
   go_wp2_with fail
   refine za HT _ _ _ _ _ _ _ _ _ _ _ _ _ _ _ _ _ _ _ _ _ _ _ _ _ _ _ _ _ _ _ _ _ _ _ _ _ _ _ _ _ _ _ _ _ _ _ _ _ _ _ _ _ _ _ _ _ _ _ _ _ _ _ _ _ _ _ (by rw [← za HH]; exact zaB (za HZO) (by omega)) (za HZB) (za HZT) (za HZ1) (za HZ2) (za HZE)
 ·rintro x A V i' o' ⟨f,rfl,hbel,hD⟩ hcl hx ho hxi hall
  have n15':i' < 15→¬ x[15]? = some true:=fun hlt h15=>by
   have hallk:∀ j,j < 15→x[j]? = some true:=fun j hj=>hcl 15 _ rfl h15 ⟨j,.phase⟩ (by
    rcases (by omega:j = 0 ∨ j = 1 ∨ j = 2 ∨ j = 3 ∨ j = 4 ∨ j = 5 ∨ j = 6 ∨ j = 7 ∨ j = 8 ∨ j = 9 ∨ j = 10 ∨ j = 11 ∨ j = 12 ∨ j = 13 ∨ j = 14) with rfl | rfl | rfl | rfl | rfl | rfl | rfl | rfl | rfl | rfl | rfl | rfl | rfl | rfl | rfl <;> simp) rfl
   rw [hallk i' hlt] at hxi; cases hxi
  clear hcl
  have HBV:=hide hbel
  have HD:=hide hD
  have hS1:=za HS1
  have hbY:b < Y.heap.size:=by omega
  have z0:V.cell? ⟨w.heap.size,0,none⟩ = some (.int .i64 tid):=zb (za HX1).1 hbel (by omega) 0 _ rfl
  have o0:V.cell? ⟨b,off + i * 6,none⟩ = some (.int .i64 oid):=zb (za HC1 i _ (za HIO)) hbel hbY 0 _ rfl
  have o2:V.cell? ⟨b,off + i * 6 + 2,none⟩ = some (.int .i64 oticks):=zb (za HC1 i _ (za HIO)) hbel hbY 2 _ rfl
  clear HK1 hS1
  match i',ho with
  | 0,ho =>
   obtain rfl:=Option.some.inj ho
   clear hall hD hbel
   rw [if_pos (by rfl)]
   unfold Oper.wp
   go_simp
   exact ⟨upd f 0 (.pointer (some ⟨w.heap.size,0,none⟩)),by simp [upd],zn (za HBV) (za HD) (by decide) rfl⟩
  | 1,ho =>
   obtain rfl:=Option.some.inj ho
   have g0:f 0 = .pointer (some ⟨w.heap.size,0,none⟩):=hD 0 (hall ⟨0,.data⟩ (by simp) rfl)
   clear hall hD hbel
   rw [if_pos (by rfl)]
   unfold Oper.wp
   go_simp
   exact ⟨upd f 1 (.int .i64 tid),by simp [upd,g0],zn (za HBV) (za HD) (by decide) rfl⟩
  | 2,ho =>
   obtain rfl:=Option.some.inj ho
   clear hall hD hbel
   rw [if_pos (by rfl)]
   unfold Oper.wp
   go_simp
   exact ⟨upd f 2 (.slice (some ⟨b,off,none⟩) l.length cap),by simp [upd],zn (za HBV) (za HD) (by decide) rfl⟩
  | 3,ho =>
   obtain rfl:=Option.some.inj ho
   clear hall hD hbel
   rw [if_pos (by rfl)]
   unfold Oper.wp
   go_simp
   exact ⟨upd f 3 (.int .i64 i),by simp [upd],zn (za HBV) (za HD) (by decide) rfl⟩
  | 4,ho =>
   obtain rfl:=Option.some.inj ho
   have g2:f 2 = .slice (some ⟨b,off,none⟩) l.length cap:=hD 2 (hall ⟨2,.data⟩ (by simp) rfl)
   have g3:f 3 = .int .i64 i:=hD 3 (hall ⟨3,.data⟩ (by simp) rfl)
   clear hall hD hbel
   rw [if_pos (by rfl)]
   unfold Oper.wp
   go_simp
   exact ⟨upd f 4 (.pointer (some ⟨b,off + i * 6,none⟩)),by simp [upd,g2,g3],zn (za HBV) (za HD) (by decide) rfl⟩
  | 5,ho =>
   obtain rfl:=Option.some.inj ho
   have g4:f 4 = .pointer (some ⟨b,off + i * 6,none⟩):=hD 4 (hall ⟨4,.data⟩ (by simp) rfl)
   clear hall hD hbel
   rw [if_pos (by rfl)]
   unfold Oper.wp
   go_simp
   exact ⟨upd f 5 (.pointer (some ⟨b,off + i * 6,none⟩)),by simp [upd,g4],zn (za HBV) (za HD) (by decide) rfl⟩
  | 6,ho =>
   obtain rfl:=Option.some.inj ho
   have g5:f 5 = .pointer (some ⟨b,off + i * 6,none⟩):=hD 5 (hall ⟨5,.data⟩ (by simp) rfl)
   clear hall hD hbel
   rw [if_pos (by rfl)]
   unfold Oper.wp
   go_simp
   exact ⟨upd f 6 (.int .i64 oid),by simp [upd,g5],zn (za HBV) (za HD) (by decide) rfl⟩
  | 7,ho =>
   obtain rfl:=Option.some.inj ho
   clear hall hD hbel
   rw [if_pos (by rfl)]
   unfold Oper.wp
   go_simp
   exact ⟨upd f 7 (.int .i64 q),by simp [upd],zn (za HBV) (za HD) (by decide) rfl⟩
  | 8,ho =>
   obtain rfl:=Option.some.inj ho
   clear hall hD hbel
   rw [if_pos (by rfl)]
   unfold Oper.wp
   go_simp
   exact ⟨upd f 8 (.slice (some ⟨b,off,none⟩) l.length cap),by simp [upd],zn (za HBV) (za HD) (by decide) rfl⟩
  | 9,ho =>
   obtain rfl:=Option.some.inj ho
   clear hall hD hbel
   rw [if_pos (by rfl)]
   unfold Oper.wp
   go_simp
   exact ⟨upd f 9 (.int .i64 i),by simp [upd],zn (za HBV) (za HD) (by decide) rfl⟩
  | 10,ho =>
   obtain rfl:=Option.some.inj ho
   have g8:f 8 = .slice (some ⟨b,off,none⟩) l.length cap:=hD 8 (hall ⟨8,.data⟩ (by simp) rfl)
   have g9:f 9 = .int .i64 i:=hD 9 (hall ⟨9,.data⟩ (by simp) rfl)
   clear hall hD hbel
   rw [if_pos (by rfl)]
   unfold Oper.wp
   go_simp
   exact ⟨upd f 10 (.pointer (some ⟨b,off + i * 6,none⟩)),by simp [upd,g8,g9],zn (za HBV) (za HD) (by decide) rfl⟩
  | 11,ho =>
   obtain rfl:=Option.some.inj ho
   have g10:f 10 = .pointer (some ⟨b,off + i * 6,none⟩):=hD 10 (hall ⟨10,.data⟩ (by simp) rfl)
   clear hall hD hbel
   rw [if_pos (by rfl)]
   unfold Oper.wp
   go_simp
   exact ⟨upd f 11 (.pointer (some ⟨b,off + i * 6 + 2,none⟩)),by simp [upd,g10],zn (za HBV) (za HD) (by decide) rfl⟩
  | 12,ho =>
   obtain rfl:=Option.some.inj ho
   have g11:f 11 = .pointer (some ⟨b,off + i * 6 + 2,none⟩):=hD 11 (hall ⟨11,.data⟩ (by simp) rfl)
   clear hall hD hbel
   rw [if_pos (by rfl)]
   unfold Oper.wp
   go_simp
   exact ⟨upd f 12 (.int .i64 oticks),by simp [upd,g11],zn (za HBV) (za HD) (by decide) rfl⟩
  | 13,ho =>
   obtain rfl:=Option.some.inj ho
   have g1:f 1 = .int .i64 tid:=hD 1 (hall ⟨1,.data⟩ (by simp) rfl)
   have g6:f 6 = .int .i64 oid:=hD 6 (hall ⟨6,.data⟩ (by simp) rfl)
   have g7:f 7 = .int .i64 q:=hD 7 (hall ⟨7,.data⟩ (by simp) rfl)
   have g12:f 12 = .int .i64 oticks:=hD 12 (hall ⟨12,.data⟩ (by simp) rfl)
   clear hall hD hbel
   rw [if_pos (by rfl)]
   unfold Oper.wp
   go_simp
   exact ⟨upd f 13 (.agg #[.int .i64 3,.int .i64 0,.int .i64 0,.int .i64 0,.int .i64 0,.int .i64 0,.int .i64 0,.float .f64 0,.string ⟨#[]⟩,.int .i64 tid,.int .i64 oid,.int .i64 q,.int .i64 oticks,.int .i64 0]),by simp [upd,g1,g6,g7,g12],zn (za HBV) (za HD) (by decide) rfl⟩
  | 14,ho =>
   obtain rfl:=Option.some.inj ho
   have n15:=n15' (by omega)
   clear hall hD hbel
   rw [if_pos (by rfl)]
   unfold Oper.wp
   go_simp
   have hb4:Below V.heap.size V (V.alloc (Obj.cells #[.int .i64 0,.int .i64 0,.int .i64 0,.int .i64 0,.int .i64 0,.int .i64 0,.int .i64 0,.float .f64 0,.string ⟨#[]⟩,.int .i64 0,.int .i64 0,.int .i64 0,.int .i64 0,.int .i64 0] 43)):=(Below.refl _ _).alloc (Nat.le_refl _) _
   exact ⟨upd f 14 (.pointer (some ⟨V.heap.size,0,none⟩)),by simp [upd],zbh (za HBV) (za HD) hb4 (by decide) (dh_grow hb4) ⟨V.heap.size,rfl,(za HBV).size,by rw [ze]; omega,zw V [.int .i64 0,.int .i64 0,.int .i64 0,.int .i64 0,.int .i64 0,.int .i64 0,.int .i64 0,.float .f64 0,.string ⟨#[]⟩,.int .i64 0,.int .i64 0,.int .i64 0,.int .i64 0,.int .i64 0] _,fun h=>absurd h n15⟩⟩
  | 15,ho =>
   obtain rfl:=Option.some.inj ho
   have g13:f 13 = .agg #[.int .i64 3,.int .i64 0,.int .i64 0,.int .i64 0,.int .i64 0,.int .i64 0,.int .i64 0,.float .f64 0,.string ⟨#[]⟩,.int .i64 tid,.int .i64 oid,.int .i64 q,.int .i64 oticks,.int .i64 0]:=hD 13 (hall ⟨13,.data⟩ (by simp) rfl)
   obtain ⟨c,g14,hc0,hc1,hct,-⟩:=hD 14 (hall ⟨14,.data⟩ (by simp) rfl)
   have HCT:=hide hct
   obtain ⟨y0,z20,n20⟩:=zc hct (j:=0) (by omega)
   obtain ⟨y1,z21,n21⟩:=zc hct (j:=1) (by omega)
   obtain ⟨y2,z22,n22⟩:=zc hct (j:=2) (by omega)
   obtain ⟨y3,z23,n23⟩:=zc hct (j:=3) (by omega)
   obtain ⟨y4,z24,n24⟩:=zc hct (j:=4) (by omega)
   obtain ⟨y5,z25,n25⟩:=zc hct (j:=5) (by omega)
   obtain ⟨y6,z26,n26⟩:=zc hct (j:=6) (by omega)
   obtain ⟨y7,z27,n27⟩:=zc hct (j:=7) (by omega)
   obtain ⟨y8,z28,n28⟩:=zc hct (j:=8) (by omega)
   obtain ⟨y9,z29,n29⟩:=zc hct (j:=9) (by omega)
   obtain ⟨y10,z30,n30⟩:=zc hct (j:=10) (by omega)
   obtain ⟨y11,z31,n31⟩:=zc hct (j:=11) (by omega)
   obtain ⟨y12,z32,n32⟩:=zc hct (j:=12) (by omega)
   obtain ⟨y13,z33,n33⟩:=zc hct (j:=13) (by omega)
   have hsf:=sfl
   clear hall hD hbel hct
   rw [if_pos (by rfl)]
   unfold Oper.wp
   go_simp
   refine ⟨upd f 15 undef,by simp [upd,g13,g14],rgx_last (zm c hc0 [.int .i64 3,.int .i64 0,.int .i64 0,.int .i64 0,.int .i64 0,.int .i64 0,.int .i64 0,.float .f64 0,.string ⟨#[]⟩,.int .i64 tid,.int .i64 oid,.int .i64 q,.int .i64 oticks,.int .i64 0] 0 V (za HBV)) (za HD) hxi (fun j hj hxj h=>dh_last j hj h (fun hj14=>?_)) trivial⟩
   subst hj14
   refine ⟨c,g14,hc0,by rw [zS]; exact hc1,World.there_setCells (za HCT) _ _ _,fun _=>World.rangeAt_setCells_same V c 0 _ (fun j hj=>za HCT j hj)⟩
  | n + 16,ho=>simp at ho
end Go.Proofs.YtopjoogdpjaocaaGreat
