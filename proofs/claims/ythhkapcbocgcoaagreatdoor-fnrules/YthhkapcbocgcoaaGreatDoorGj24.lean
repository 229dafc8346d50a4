/-
  Appending a text's bytes to a row that the call made, whatever block the row lies in: the law for the walk.
-/
import Derived.Test.YthhkapcbocgcoaaGreatDoorGj23
import Derived.Lib.AppendStr
set_option linter.unusedVariables false
set_option maxHeartbeats 6400000
set_option maxRecDepth 100000
namespace Go.Proofs.YthhkapcbocgcoaaGreatDoor
open Go.RowKit
def bl (s:ByteArray):List Int:=s.data.toList.map fun b=>(b.toNat:Int)
theorem bl_len (s:ByteArray):(bl s).length = s.size:=by simp [bl]
theorem bl_cells (s:ByteArray):Lib.strCells s = (bl s).map (Value.int .u8):=by simp [Lib.strCells,bl]
theorem run_room_text {P:Program} (w:World) (t u ty e tb:TypeId) (i:TypeInfo) (ht:P.underlying t = some (.slice e)) (hu:P.underlying u = some .string) (hi:P.info? e = some i) (xF:i.size = 1)
  (g qU pA:Nat) (xz:Array Value) (hg:w.heap[g]? = some (.cells xz tb (0,0))) (s:ByteArray) (py:qU + s.size ≤ pA) (po:qU + s.size ≤ xz.size) :
  (Builtin.append_ #[t,u] ty #[.slice (some (J g 0)) qU pA,yk s]).run P w =
   .ok (.slice (some (J g 0)) (qU + s.size) pA) (w.setRow g (xz.toList.take qU ++ Lib.strCells s ++ xz.toList.drop (qU + s.size)).toArray):=by
 have hf:=Lib.run_firstCells_string (P:=P) w 1 s
 have vd:=run_storeCells_at P g qU tb (Lib.strCells s) 0 xz w hg (by simpa [Lib.strCells_length] using po) (Lib.strCells_oneCell s)
 simp only [Nat.add_zero,Lib.strCells_length] at vd
 simp [Builtin.append_,run_underlying ht,run_underlying hu,sizeOf,typeInfo,hi,xF,Builtin.lenOf,py,hf,Addr.add_lit,vd]
theorem run_append_text {P:Program} (w:World) (B:Nat) (t u ty e:TypeId) (i:TypeInfo) (ht:P.underlying t = some (.slice e)) (hu:P.underlying u = some .string) (hi:P.info? e = some i)
  (hz:i.zero = some (.int .u8 0)) (jE:i.size = 1) (hby:i.bytes = 1) (v:Value) (l:List Int) (xS:OwnT B w v l) (s:ByteArray) (A:l.length + s.size ≤ 1073741824) (hB:B ≤ w.heap.size) :
  ∃ v' w',(Builtin.append_ #[t,u] ty #[v,yk s]).run P w = .ok v' w'∧OwnT B w' v' (l ++ bl s)∧w.grownBy w' v.ownBlock:=by
 obtain ⟨g,cap,xz,tb,rfl,hbg,hg,vB,hcs,hcm,hl,oj⟩:=xS
 have xD:(l ++ bl s).length = l.length + s.size:=by rw [yQ,bl_len]
 by_cases py:l.length + s.size ≤ cap
 ·have hr:=run_room_text (P:=P) w t u ty e tb i ht hu hi jE g l.length cap xz hg s py (by omega)
  refine ⟨_,_,hr,⟨g,cap,_,tb,by rw [xD],hbg,setRow_heap w g xz _ tb _ hg,by omega,?_,hcm,by omega,?_⟩,⟨rfl,rfl,rfl,by simp,fun k _ E=>setRow_other w g k _ (fun e=>E (by simp [Value.ownBlock,e]))⟩⟩
  ·simp only [List.size_toArray,yQ,List.length_take,List.length_drop,Array.length_toList,Lib.strCells_length]
   omega
  ·rw [oj,bl_cells,← List.map_append]
   exact List.take_left' (by simp)
 ·have hr:=Lib.run_append_grow_string (P:=P) w t u ty e i (.int .u8 0) ht hu hi hz (J g 0) l.length cap (l.map (Value.int .u8)) (by rw [jE]; simp)
   (fun j x hj=>by
    have hj':j < l.length:=by
     rcases Nat.lt_or_ge j l.length with h | h
     ·exact h
     ·rw [List.getElem?_eq_none (by simpa using h)] at hj; cases hj
    have:=cell_head hg oj hj'
    rw [List.getElem?_map,yI hj'] at hj
    have e:((J g 0):Addr).add j = (J g j):=by unfold Addr.add; split <;> simp_all
    rw [e,this]
    simpa [hj'] using hj) s (by omega) (by omega) (by rw [hby]; exact growslice_fits (by omega) (by omega))
  have hge:=grownCap_ge w (l.length + s.size) cap e
  have hcm':grownCap w (l.length + s.size) cap e ≤ maxLen:=grownCap_le_maxLen w (l.length + s.size) cap e (by unfold maxLen; omega)
  refine ⟨_,_,hr,⟨w.heap.size,_,_,e,by rw [xD],hB,heap_alloc_new w.drew _,by omega,?_,hcm',by omega,?_⟩,⟨rfl,rfl,rfl,by simp,fun k E _=>Below.heap_alloc w.drew _ k E⟩⟩
  ·have uz:(Value.int IntKind.u8 0).cells.size = 1:=rfl
   simp only [Array.size_append,List.size_toArray,size_zeroCells,uz,Lib.strCells_length,List.length_map]
   omega
  ·simp only [Array.toList_append,bl_cells,← List.map_append]
   exact List.take_left' (by simp)
theorem wpList_append_text {P:Program} (w:World) {ops:Array Oper} {rest:List Oper} {o:Oper} {a:Act} {h1:Exit→Act→World→Prop} (hgd:o.guard = none) (sl x:Operand) (t u:TypeId)
  (Y:o.op = .call { callee:=.builtin .append,args:=#[sl,x],argTypes:=#[t,u] })
  (B:Nat) (e:TypeId) (i:TypeInfo) (ht:P.underlying t = some (.slice e)) (hu:P.underlying u = some .string) (hi:P.info? e = some i)
  (hz:i.zero = some (.int .u8 0)) (jE:i.size = 1) (hby:i.bytes = 1) (v:Value) (l:List Int) (hs:a.eval sl = v) (xS:OwnT B w v l) (s:ByteArray) (hx:a.eval x = yk s)
  (A:l.length + s.size ≤ 1073741824) (hB:B ≤ w.heap.size)
  (h:∀ v' w',OwnT B w' v' (l ++ bl s)→w.grownBy w' v.ownBlock→wpList P ops h1 rest (a.put o.dst v') w'):wpList P ops h1 (o :: rest) a w:=by
 refine wpList_plain hgd fun xh hK=>?_
 obtain ⟨v',w',hr,D,X⟩:=run_append_text (P:=P) w B t u o.type e i ht hu hi hz jE hby v l xS s A hB
 unfold Oper.wp execOp
 simp only [Y,resolve,invoke,builtin,Sem.run_bind,Sem.run_pure,Result.andThen_ok,List.map_toArray,List.map_cons,List.map_nil,hs,hx,hr]
 exact hK _ _ (h v' w' D X)
def cutB (s:ByteArray):ByteArray:=if 12 < s.size then s.extract 0 13 else s
theorem eU (s:ByteArray):(cutB s).size ≤ 13:=by
 unfold cutB; split
 ·simp; omega
 ·omega
theorem cutB_one (s:ByteArray) (h:s.size = 13):cutB s = s:=by
 unfold cutB; rw [if_pos (by omega),← h]; exact ByteArray.extract_zero_size
theorem implCut_any (s:ByteArray) (w:World) (hs:s.size ≤ maxLen) :
  Calls Tryz.prog 198 #[yk s] w fun e w'=>e = .returned (yk (cutB s))∧w' = w:=by
 unfold maxLen at hs
 by_cases h:12 < s.size
 ·have HF:=M (show cutB s = s.extract 0 13 from if_pos h)
  have h':(12:Int) < s.size:=by omega
  go_enter Tryz.func198,Tryz.ntmps198
  go_wp2
  go_ret
  exact ⟨by rw [U HF]; rfl,rfl⟩
 ·have HF:=M (show cutB s = s from if_neg h)
  have h':(s.size:Int) ≤ 12:=by omega
  go_enter Tryz.func198,Tryz.ntmps198
  go_wp2
  go_ret
  exact ⟨by rw [U HF]; rfl,rfl⟩
end Go.Proofs.YthhkapcbocgcoaaGreatDoor
namespace Go.Proofs.YthhkapcbocgcoaaGreatDoor
open Go

def zz (n:Int):Nat:=if n < 0 then (-2 * n - 1).toNat else (2 * n).toNat
def putU (u:Nat):List Int:=if u < 128 then [(u:Int)] else ((u:Int) % 128 + 128) :: putU (u / 128)
termination_by u
decreasing_by omega
theorem fX {u:Nat} (h:u < 128):putU u = [(u:Int)]:=by rw [putU,if_pos h]
theorem gC {u:Nat} (h:¬ u < 128):putU u = ((u:Int) % 128 + 128) :: putU (u / 128):=by rw [putU,if_neg h]
theorem putU_pos (u:Nat):1 ≤ (putU u).length:=by
 rw [putU]; split <;> simp
theorem putU_len:∀ (k u:Nat),u < 128 ^ (k + 1)→(putU u).length ≤ k + 1
 | 0,u,h=>by rw [fX (by simpa using h)]; simp
 | k + 1,u,h=>by
  by_cases hu:u < 128
  ·rw [fX hu]; simp
  ·rw [gC hu]
   have:=putU_len k (u / 128) (by rw [Nat.div_lt_iff_lt_mul (by omega)]; rw [Nat.pow_succ] at h; exact h)
   simp only [List.length_cons]; omega
theorem gD (u:Nat) (h:u < 18446744073709551616):(putU u).length ≤ 10 :=
 putU_len 9 u (yK h (by decide))
def Lt64 (x:Nat):Prop:=x < 18446744073709551616
theorem putU_at {u0 x:Nat} {done:List Int} (hu:(putU u0).length ≤ 10) (h:done ++ putU x = putU u0):done.length ≤ 9:=by
 have:=congrArg List.length h
 have Q:=putU_pos x
 rw [yQ] at this
 omega
theorem putU_step {u0 x:Nat} {done:List Int} (hx:¬ x < 128) (h:done ++ putU x = putU u0):(done ++ [(x:Int) % 128 + 128]) ++ putU (x / 128) = putU u0:=by
 rw [← h,gC hx,List.append_assoc]; rfl
theorem putU_end {u0 x:Nat} {done:List Int} (hx:x < 128) (h:done ++ putU x = putU u0):done ++ [(x:Int)] = putU u0:=by
 rw [← h,fX hx]
theorem zz_lt (n:Int) (h0:-9223372036854775808 ≤ n) (Q:n ≤ 9223372036854775807):zz n < 18446744073709551616:=by
 unfold zz; split <;> omega
theorem xor_ones (x:Nat) (h:x < 18446744073709551616):x ^^^ 18446744073709551615 = 18446744073709551615 - x:=by
 have e:=congrArg BitVec.toNat (BitVec.xor_allOnes (x:=BitVec.ofNat 64 x))
 rw [BitVec.toNat_xor,BitVec.toNat_not,BitVec.toNat_allOnes,BitVec.toNat_ofNat] at e
 have hm:x % 2 ^ 64 = x:=Nat.mod_eq_of_lt h
 rw [hm] at e
 exact e
theorem fold_neg (n:Int) (h0:-9223372036854775808 ≤ n) (Q:n < 0) :
  bits .xor .u64 (IntKind.u64.wrap (IntKind.u64.wrap n * 2)) (IntKind.u64.wrap (n / 9223372036854775808)) = (zz n:Int):=by
 simp only [IntKind.wrap_u64]
 have e1:n % 18446744073709551616 * 2 % 18446744073709551616 = 2 * n + 18446744073709551616:=by omega
 have e2:n / 9223372036854775808 % 18446744073709551616 = 18446744073709551615:=by omega
 rw [e1,e2,u64_xor _ _ (by omega) (by omega) (by omega) (by omega)]
 have e3:(18446744073709551615:Int).toNat = 18446744073709551615:=rfl
 rw [e3,xor_ones _ (by omega)]
 unfold zz; rw [if_pos Q]; omega
theorem fold_pos (n:Int) (h0:0 ≤ n) (Q:n ≤ 9223372036854775807) :
  bits .xor .u64 (IntKind.u64.wrap (IntKind.u64.wrap n * 2)) (IntKind.u64.wrap (n / 9223372036854775808)) = (zz n:Int):=by
 simp only [IntKind.wrap_u64]
 have e1:n % 18446744073709551616 * 2 % 18446744073709551616 = 2 * n:=by omega
 have e2:n / 9223372036854775808 % 18446744073709551616 = 0:=by omega
 rw [e1,e2,u64_xor _ _ (by omega) (by omega) (by omega) (by omega)]
 have e3:(0:Int).toNat = 0:=rfl
 rw [e3,Nat.xor_zero]
 unfold zz; rw [if_neg (by omega)]
theorem fold_eq (n:Int) (h0:-9223372036854775808 ≤ n) (Q:n ≤ 9223372036854775807) :
  bits .xor .u64 (IntKind.u64.wrap (IntKind.u64.wrap n * 2)) (IntKind.u64.wrap (n / 9223372036854775808)) = (zz n:Int):=by
 by_cases h:n < 0
 ·exact fold_neg n h0 h
 ·exact fold_pos n (by omega) Q
theorem and127 (x:Nat) (h:x < 18446744073709551616):bits .and .u64 (x:Int) 127 = (x:Int) % 128:=by
 have:=u64_and_nat x 127 h (by omega)
 rw [show ((127:Nat):Int) = 127 from rfl] at this
 rw [this,show x &&& 127 = x % 128 from Nat.and_two_pow_sub_one_eq_mod x 7]
 omega
end Go.Proofs.YthhkapcbocgcoaaGreatDoor
namespace Go.Proofs.YthhkapcbocgcoaaGreatDoor
open Go.RowKit
theorem fold_any (n:Int) (w:World) (h0:-9223372036854775808 ≤ n) (Q:n ≤ 9223372036854775807) :
  Calls Tryz.prog 196 #[H n] w fun e w'=>e = .returned (.int .u64 (zz n))∧w' = w:=by
 have HX:=M (fold_eq n h0 Q)
 go_enter Tryz.func196,Tryz.ntmps196
 go_wp2
 go_ret
 exact ⟨zw (U HX),rfl⟩
theorem Tryz.arrayLen224:Tryz.prog.arrayLen 224 = 10:=by kernel_rfl
theorem slice_head10 (B k:Nat) (h:k ≤ 9) (W:World) :
  (Instr.sliceAt 224 (I B 0) none (some (H ((k:Int) + 1))) none).run Tryz.prog W = .ok (.slice (some (J B 0)) (k + 1) 10) W:=by
 rw [run_sliceAt_array_h W 224 _ (by kernel_rfl) _ _ (by omega) (by rw [Tryz.arrayLen224]; omega),Tryz.arrayLen224]
 have e:((k:Int) + 1).toNat = k + 1:=by omega
 have hs:(sizeOf (Tryz.prog.elem 224)).run Tryz.prog W = .ok 1 W:=by kernel_rfl
 rw [hs,e]
 simp [slicedAt,Result.andThen,Addr.add]
theorem implPut_any (n:Int) (w:World) (h0:-9223372036854775808 ≤ n) (Q:n ≤ 9223372036854775807) :
  Calls Tryz.prog 173 #[H n] w fun e w'=>∃ v,e = .returned v∧OwnT w.heap.size w' v (putU (zz n))∧yn w w':=by
 have HL:=M (gD _ (zz_lt n h0 Q))
 have H6:=M (zz_lt n h0 Q)
 have HF:=M (fun w=>fold_any n w h0 Q)
 clear h0 Q
 generalize hz:zz n = u0 at *
 have HZ:=M hz
 clear hz
 go_enter Tryz.func173,Tryz.ntmps173
 go_wp2_with (go_at_call 196; refine (U HF _).mono ?_; rintro e w' ⟨rfl,rfl⟩)
 go_loopw [4,5] (fun u c wr=>∃ (x:Nat) (done:List Int),u = .int .u64 x∧Lt64 x∧c = H done.length∧done ++ putU x = putU u0∧Arr 10 w.heap.size w wr done) (fun u _ _=>(intOf u).toNat)
 case atStart=>exact ⟨u0,[],rfl,U H6,rfl,rfl,arr_start _ _ _ rfl⟩
 case round =>
  obtain ⟨x,done,rfl,hx,rfl,hdone,harr⟩:=hrel
  have HD:=M hdone
  have hdl:=putU_at (U HL) hdone
  have hdl':(done.length:Int) < 10:=by omega
  clear hdone
  obtain ⟨v0,hv0⟩:=harr.some (j:=done.length) (by omega)
  have hf0:=harr.free done.length
  by_cases xM:x < 128
  ·have HE:=M (putU_end xM (U HD))
   have HA:=M (arr_step (x:Int) harr (by omega))
   have hsl:=slice_head10 w.heap.size done.length (by omega)
   clear harr
   go_wp2_with fail
   go_ret
   have hE:=U HE
   rw [hE] at HA
   have xD:done.length + 1 = (putU u0).length:=by rw [← hE]; simp
   refine ⟨_,rfl,?_,(U HA).below⟩
   rw [xD]
   exact arr_own (U HA) rfl (by omega)
  ·have vj:(128:Int) ≤ x:=by omega
   have hand:=and127 x hx
   have HA:=M (arr_step ((x:Int) % 128 + 128) harr (by omega))
   clear harr
   go_wp2_with fail
   go_roundw
   case rel=>exact ⟨x / 128,done ++ [(x:Int) % 128 + 128],by go_num,by unfold Lt64 at *; omega,by simp,putU_step xM (U HD),U HA⟩
   case measure=>simp [intOf]; omega
def cR (s:ByteArray):List Int:=putU (zz (cutB s).size) ++ bl (cutB s)
theorem textL_len (s:ByteArray):0 < (cR s).length∧(cR s).length ≤ 1073741824:=by
 have Q:=putU_pos (zz (cutB s).size)
 have D:=eU s
 have X:=gD (zz (cutB s).size) (zz_lt _ (by omega) (by omega))
 rw [cR,yQ,bl_len]
 omega
theorem implText_any (s:ByteArray) (w:World) (hs:s.size ≤ maxLen) :
  Calls Tryz.prog 178 #[yk s] w fun e w'=>∃ v,e = .returned v∧OwnT w.heap.size w' v (cR s)∧yn w w':=by
 obtain ⟨i0,hi,uD,uz,uM⟩:=info_parts Tryz.infoByte
 have hc:=eU s
 have HT:=M (textL_len s).2
 have HTL:=M (show cR s = putU (zz (cutB s).size) ++ bl (cutB s) from rfl)
 have HC:=M (fun w=>implCut_any s w hs)
 generalize cutB s = c at *
 generalize cR s = l at *
 clear hs
 go_enter Tryz.func178,Tryz.ntmps178
 go_wp2_with fail
 refine (U HC _).mono ?_
 rintro e w0 ⟨rfl,rfl⟩
 go_wp2_with fail
 refine (implPut_any c.size _ (by omega) (by omega)).mono ?_
 rintro e w1 ⟨v1,rfl,Y,A⟩
 have HO:=M Y
 have HB:=M A
 clear Y A
 go_wp2_with (at_builtin; go_must (refine wpList_append_text _ rfl _ _ 22 9 rfl w0.heap.size 5 i0 Tryz.underlying22 Tryz.underlying9 hi uD uz uM _ _ rfl (U HO) c rfl (by have:=U HT; rw [U HTL,yQ,bl_len] at this; exact this) (U HB).size ?_); intro v2 w2 kU vh)
 go_ret
 refine ⟨_,rfl,by rw [U HTL]; exact kU,(U HB).grown vh (U HB).size (OwnT.ge (U HO))⟩
def fl8 (u:Nat):List Int:=[(u:Int) / 72057594037927936 % 256,(u:Int) / 281474976710656 % 256,(u:Int) / 1099511627776 % 256,(u:Int) / 4294967296 % 256,
 (u:Int) / 16777216 % 256,(u:Int) / 65536 % 256,(u:Int) / 256 % 256,(u:Int) % 256]
theorem fl8_len (u:Nat):(fl8 u).length = 8:=rfl
theorem Tryz.arrayLen228:Tryz.prog.arrayLen 228 = 8:=by kernel_rfl
theorem slice_all8 (B:Nat) (W:World) :
  (Instr.sliceAt 228 (I B 0) none none none).run Tryz.prog W = .ok (.slice (some (J B 0)) 8 8) W:=by
 rw [run_sliceAt_array_all W 228 _ (by kernel_rfl),Tryz.arrayLen228]
 have hs:(sizeOf (Tryz.prog.elem 228)).run Tryz.prog W = .ok 1 W:=by kernel_rfl
 rw [hs]
 simp [slicedAt,Result.andThen,Addr.add]
theorem implFloat_bits (x u:Nat) (w:World) (hu:fbit x = u) :
  Calls Tryz.prog 176 #[yj x] w fun e w'=>∃ v,e = .returned v∧OwnT w.heap.size w' v (fl8 u)∧yn w w':=by
 have hsl:=slice_all8 w.heap.size
 have HF:=M (fun w=>hu ▸ gJ x w)
 clear hu
 go_enter Tryz.func176,Tryz.ntmps176
 go_wp2_with (go_at_call 93; refine (U HF _).mono ?_; rintro e w' ⟨rfl,rfl⟩)
 refine wp_loop_rounds 9 ?_
 repeat (rw [rounds_succ]; go_wp2_with fail)
 go_ret
 exact ⟨_,rfl,⟨_,8,_,_,rfl,Nat.le_refl _,heap_alloc_new _ _,by rw [fl8_len]; decide,by simp,by unfold maxLen; omega,by rw [fl8_len]; decide,by simp [fl8]⟩,gZ _ _⟩
theorem implFloat_any (x:Nat) (w:World) :
  Calls Tryz.prog 176 #[yj x] w fun e w'=>∃ v,e = .returned v∧OwnT w.heap.size w' v (fl8 (fbit x))∧yn w w' :=
 implFloat_bits x _ w rfl
def Ev.num (e:Ev):Nat→Int
 | 1=>e.cmd.k
 | 2=>e.cmd.s
 | 3=>e.cmd.t
 | 4=>e.cmd.l
 | 5=>e.cmd.q
 | 6=>e.cmd.i
 | 9=>e.id
 | 10=>e.other
 | 11=>e.qty
 | 12=>e.price
 | 13=>e.reason
 | _=>0
theorem ev_num (e:Ev) {o:Nat} (h:plcO o = true):e.vs[o]? = some (H (e.num o)):=by
 rcases (show o = 1 ∨ o = 2 ∨ o = 3 ∨ o = 4 ∨ o = 5 ∨ o = 6 ∨ o = 9 ∨ o = 10 ∨ o = 11 ∨ o = 12 ∨ o = 13 by simp [plcO] at h; omega) with rfl | rfl | rfl | rfl | rfl | rfl | rfl | rfl | rfl | rfl | rfl
 all_goals rfl
structure Ev.fit (e:Ev):Prop where
 n:∀ o,-9223372036854775808 ≤ e.num o∧e.num o ≤ 9223372036854775807
 k:-9223372036854775808 ≤ e.kind∧e.kind ≤ 9223372036854775807
 p:e.cmd.p < 18446744073709551616
 g:e.cmd.g.size ≤ maxLen
def wrF (e:Ev) (o:Nat):List Int:=if o = 7 then fl8 (fbit e.cmd.p) else if o = 8 then cR e.cmd.g else putU (zz (e.num o))
theorem ownT_base {B C:Nat} {w:World} {v:Value} {l:List Int} (h:OwnT C w v l) (hB:B ≤ C):OwnT B w v l:=by
 obtain ⟨g,cap,xz,t,Q,D,X⟩:=h
 exact ⟨g,cap,xz,t,Q,yO hB D,X⟩
def WrEnd (w:World) (l:List Int) (r:Ending) (w':World):Prop:=∃ v,r = .returned v∧OwnT w.heap.size w' v l∧yn w w'
theorem writeNum_any (e:Ev) (b o:Nat) (w:World) (he:e.fit) (Y:plcO o = true) (hc:w.cell? (J b 0) = some (.func (.func (plcV o)) #[] #[])) :
  Calls Tryz.prog 172 #[evV e,I b 0] w fun r w'=>WrEnd w (putU (zz (e.num o))) r w':=by
 have xR:=gZ w (Obj.cells e.vs.toArray 37)
 have hx:=zb (zy w e.vs 37) o (ev_num e Y)
 have HP:=M (fun W=>plc_any o w.heap.size W Y)
 have hpe:=plc_enter o Y
 have xM:=yL w _ hc
 have hc':=(xR.cell (p:=(J b 0)) xM).trans hc
 have HI:=M (fun W=>implPut_any (e.num o) W (he.n o).1 (he.n o).2)
 have HB:=M xR
 have HZ:Hid ((w.alloc (Obj.cells e.vs.toArray 37)).heap.size = w.heap.size + 1):=by show _ = _; simp
 clear xR hc he
 generalize plcV o = f at *
 generalize e.num o = z at *
 unfold evV
 unfold Ev.vs at hx hc' HB HZ
 obtain ⟨xn,⟨ck,cs,ct,cl,cq,ci,cp,cg⟩,id,xl,qty,xm,xk⟩:=e
 simp only at hx hc' HB HZ ⊢
 go_enter Tryz.func172,Tryz.ntmps172
 go_wp2_with fail
 refine (U HP _).mono ?_
 rintro r w1 ⟨rfl,kW⟩
 rw [kW]
 clear kW
 go_wp2_with fail
 refine (U HI _).mono ?_
 rintro r w2 ⟨v,rfl,kU,xP⟩
 have HE:Hid (WrEnd w (putU (zz z)) (.returned v) w2):=⟨v,rfl,ownT_base kU (by rw [U HZ]; omega),(U HB).trans (xP.mono (U HB).size)⟩
 clear kU xP
 go_wp2_with fail
 go_ret
 exact U HE
theorem writePrice_any (e:Ev) (w:World) (he:e.fit):Calls Tryz.prog 131 #[evV e] w fun r w'=>WrEnd w (fl8 (fbit e.cmd.p)) r w':=by
 have hsf:=sfl
 have xR:=gZ w (Obj.cells e.vs.toArray 37)
 have hx:=zb (zy w e.vs 37) 7 rfl
 have HI:=M (fun W=>implFloat_any e.cmd.p W)
 have HB:=M xR
 have HZ:Hid ((w.alloc (Obj.cells e.vs.toArray 37)).heap.size = w.heap.size + 1):=by show _ = _; simp
 clear xR he
 unfold evV
 unfold Ev.vs at hx HB HZ
 obtain ⟨xn,⟨ck,cs,ct,cl,cq,ci,cp,cg⟩,id,xl,qty,xm,xk⟩:=e
 simp only at hx HB HZ HI ⊢
 go_enter Tryz.func131,Tryz.ntmps131
 go_wp2_with fail
 refine (U HI _).mono ?_
 rintro r w2 ⟨v,rfl,kU,xP⟩
 have HE:Hid (WrEnd w (fl8 (fbit cp)) (.returned v) w2):=⟨v,rfl,ownT_base kU (by rw [U HZ]; omega),(U HB).trans (xP.mono (U HB).size)⟩
 clear kU xP
 go_wp2_with fail
 go_ret
 exact U HE
theorem writeTag_any (e:Ev) (w:World) (he:e.fit):Calls Tryz.prog 133 #[evV e] w fun r w'=>WrEnd w (cR e.cmd.g) r w':=by
 have hq:=he.g
 have xR:=gZ w (Obj.cells e.vs.toArray 37)
 have hx:=zb (zy w e.vs 37) 8 rfl
 have HI:=M (fun W=>implText_any e.cmd.g W he.g)
 have HB:=M xR
 have HZ:Hid ((w.alloc (Obj.cells e.vs.toArray 37)).heap.size = w.heap.size + 1):=by show _ = _; simp
 clear xR he
 unfold evV
 unfold Ev.vs at hx HB HZ
 obtain ⟨xn,⟨ck,cs,ct,cl,cq,ci,cp,cg⟩,id,xl,qty,xm,xk⟩:=e
 simp only at hx HB HZ HI ⊢
 go_enter Tryz.func133,Tryz.ntmps133
 go_wp2_with fail
 refine (U HI _).mono ?_
 rintro r w2 ⟨v,rfl,kU,xP⟩
 have HE:Hid (WrEnd w (cR cg) (.returned v) w2):=⟨v,rfl,ownT_base kU (by rw [U HZ]; omega),(U HB).trans (xP.mono (U HB).size)⟩
 clear kU xP
 go_wp2_with fail
 go_ret
 exact U HE
theorem writeField_any (hR o:Nat) (c:Fc) (e:Ev) (W:World) (he:e.fit) (Y:EvO o) (hf:FF W hR o c):Calls Tryz.prog c.n1 (#[evV e] ++ c.l) W fun r w'=>WrEnd W (wrF e o) r w':=by
 unfold FF at hf
 unfold wrF
 unfold EvO at Y
 rcases Y with rfl | rfl | Y
 ·rw [if_pos rfl] at hf
  subst hf
  exact writePrice_any e W he
 ·rw [if_neg (by decide),if_pos rfl] at hf
  subst hf
  exact writeTag_any e W he
 ·have h7:o ≠ 7:=by intro e; subst e; simp [plcO] at Y
  have h8:o ≠ 8:=by intro e; subst e; simp [plcO] at Y
  rw [if_neg h7,if_neg h8] at hf ⊢
  obtain ⟨b,rfl,Q,D,X⟩:=hf
  exact writeNum_any e b o W he Y X
def tkS (x:Nat):Int:=if ((FloatKind.f64.format.order x 0 == some Ordering.gt) && ((FloatKind.f64.format.order x 4687829947429945344 == some Ordering.lt) || (FloatKind.f64.format.order x 4687829947429945344 == some Ordering.eq))) = true then tkN x else 0
theorem tkS_ok {x:Nat} (h:tkOk x = true):tkS x = tk x:=by
 unfold tk tkS
 rw [if_pos h]
 unfold tkOk at h
 rw [xf] at h
 rw [if_pos h.1]
theorem l01Ticks_any (x:Nat) (w:World) :
  Calls Tryz.prog 71 #[yj x] w fun e w'=>e = ym (.tuple #[H (tkS x),.bool (tkOk x)])∧w' = w:=by
 by_cases h0:FloatKind.f64.format.order x 0 = some Ordering.gt
 ·by_cases Q:FloatKind.f64.format.order x 4687829947429945344 = some Ordering.lt ∨ FloatKind.f64.format.order x 4687829947429945344 = some Ordering.eq
  ·obtain ⟨r,n,jN,aS,hn⟩:=price_four h0 Q
   have hn':(n:Int) < 9007199254740992:=by omega
   have eR:tkR x = r:=by unfold tkR; rw [show FloatKind.f64.format.mul x 4616189618054758400 = some r from jN]; rfl
   have eN:tkN x = n:=by unfold tkN; rw [eR,show (FloatKind.f64.decode r).toInt .zero = some (n:Int) from aS]; rfl
   have b0:(FloatKind.f64.format.order x 0 == some Ordering.gt) = true:=by rw [h0]; rfl
   have hm:∀ W,(binOp .mul 31 (yj x) (yj 4616189618054758400)).run Tryz.prog W = .ok (yj r) W:=fun W=>by
    have:FloatKind.f64.format.mul x 4616189618054758400 = some r:=jN
    simp [binOp,Op.floatArith,this]
   have hc:∀ W,(convert 31 3 (yj r)).run Tryz.prog W = .ok (H n) W:=fun W=>by
    have D:(FloatKind.f64.decode r).toInt .zero = some (n:Int):=aS
    have A:IntKind.i64.min ≤ (n:Int)∧(n:Int) ≤ IntKind.i64.max:=by
     rw [show IntKind.i64.min = -9223372036854775808 by decide,show IntKind.i64.max = 9223372036854775807 by decide]; omega
    simp [convert,run_underlying Tryz.underlying31,run_underlying Tryz.underlying3,Conv.floatToInt,D,A.1]
    intro h
    omega
   have vX:((FloatKind.f64.format.order x 4687829947429945344 == some Ordering.lt) || (FloatKind.f64.format.order x 4687829947429945344 == some Ordering.eq)) = true:=by
    rcases Q with Q | Q <;> rw [Q] <;> rfl
   have un:tkOk x = (FloatKind.f64.format.order (floatOfInt .f64 n) r == some Ordering.eq):=by unfold tkOk; rw [eN,eR,b0,vX]; rfl
   have hS:tkS x = n:=by unfold tkS; rw [b0,vX,eN]; rfl
   clear jN aS h0 vX
   cases he:(FloatKind.f64.format.order (floatOfInt .f64 n) r == some Ordering.eq)
   all_goals
    have he2:(FloatKind.f64.format.order (floatOfInt .f64 n) r != some Ordering.eq) = !(FloatKind.f64.format.order (floatOfInt .f64 n) r == some Ordering.eq):=rfl
    rw [he] at he2
    rw [he] at un
   ·have HT:Hid (tkS x = n∧tkOk x = false):=⟨hS,un⟩
    clear un eN eR hS
    rcases Q with Q | Q
    ·have b1:(FloatKind.f64.format.order x 4687829947429945344 == some Ordering.lt) = true:=by rw [Q]; rfl
     have b2:(FloatKind.f64.format.order x 4687829947429945344 == some Ordering.eq) = false:=by rw [Q]; rfl
     clear Q
     go_enter Tryz.func71,Tryz.ntmps71
     go_wp2
     go_ret2
     exact ⟨by rw [(U HT).1,(U HT).2]; rfl,rfl⟩
    ·have b1:(FloatKind.f64.format.order x 4687829947429945344 == some Ordering.lt) = false:=by rw [Q]; rfl
     have b2:(FloatKind.f64.format.order x 4687829947429945344 == some Ordering.eq) = true:=by rw [Q]; rfl
     clear Q
     go_enter Tryz.func71,Tryz.ntmps71
     go_wp2
     go_ret2
     exact ⟨by rw [(U HT).1,(U HT).2]; rfl,rfl⟩
   ·have HT:Hid (tkS x = n∧tkOk x = true):=⟨hS,un⟩
    clear un eN eR hS
    rcases Q with Q | Q
    ·have b1:(FloatKind.f64.format.order x 4687829947429945344 == some Ordering.lt) = true:=by rw [Q]; rfl
     have b2:(FloatKind.f64.format.order x 4687829947429945344 == some Ordering.eq) = false:=by rw [Q]; rfl
     clear Q
     go_enter Tryz.func71,Tryz.ntmps71
     go_wp2
     go_ret2
     exact ⟨by rw [(U HT).1,(U HT).2]; rfl,rfl⟩
    ·have b1:(FloatKind.f64.format.order x 4687829947429945344 == some Ordering.lt) = false:=by rw [Q]; rfl
     have b2:(FloatKind.f64.format.order x 4687829947429945344 == some Ordering.eq) = true:=by rw [Q]; rfl
     clear Q
     go_enter Tryz.func71,Tryz.ntmps71
     go_wp2
     go_ret2
     exact ⟨by rw [(U HT).1,(U HT).2]; rfl,rfl⟩
  ·have b0:(FloatKind.f64.format.order x 0 == some Ordering.gt) = true:=by rw [h0]; rfl
   have b1:(FloatKind.f64.format.order x 4687829947429945344 == some Ordering.lt) = false:=by rw [xe]; exact fun h=>Q (.inl h)
   have b2:(FloatKind.f64.format.order x 4687829947429945344 == some Ordering.eq) = false:=by rw [xe]; exact fun h=>Q (.inr h)
   have un:tkOk x = false:=by unfold tkOk; rw [b0,b1,b2]; rfl
   have HT:Hid (tkS x = 0∧tkOk x = false):=⟨by unfold tkS; rw [b0,b1,b2]; rfl,un⟩
   clear h0 Q un
   go_enter Tryz.func71,Tryz.ntmps71
   go_wp2
   go_ret2
   exact ⟨by rw [(U HT).1,(U HT).2]; rfl,rfl⟩
 ·have b0:(FloatKind.f64.format.order x 0 == some Ordering.gt) = false:=by rw [xe]; exact h0
  have un:tkOk x = false:=by unfold tkOk; rw [b0]; rfl
  have HT:Hid (tkS x = 0∧tkOk x = false):=⟨by unfold tkS; rw [b0]; rfl,un⟩
  clear h0 un
  go_enter Tryz.func71,Tryz.ntmps71
  go_wp2
  go_ret2
  exact ⟨by rw [(U HT).1,(U HT).2]; rfl,rfl⟩
theorem bitsS_any (x:Nat) (w:World) :
  Calls Tryz.prog 159 #[yj x] w fun e w'=>e = ym (.int .u64 (fbit x))∧w' = w:=by
 have A:=fbits
 cases h:nanB x with
 | true =>
  have HF:=M (show fbit x = 9221120237041090560 from if_pos h)
  have h':(FloatKind.f64.format.order x x != some Ordering.eq) = true:=h
  clear h
  go_enter Tryz.func159,Tryz.ntmps159
  go_wp2
  go_ret
  exact ⟨zw (by rw [U HF]; rfl),rfl⟩
 | false =>
  have HF:=M (show fbit x = x from if_neg (by rw [h]; decide))
  have h':(FloatKind.f64.format.order x x != some Ordering.eq) = false:=h
  clear h
  go_enter Tryz.func159,Tryz.ntmps159
  go_wp2
  go_ret
  exact ⟨zw (by rw [U HF]),rfl⟩
theorem l04Zero_any (x:Nat) (w:World) :
  Calls Tryz.prog 118 #[yj x] w fun e w'=>e = ym (.bool (decide (fbit x = 0)))∧w' = w:=by
 have HL:=M (fun w=>bitsS_any x w)
 generalize fbit x = u at *
 have hdec:decide (u = 0) = (((u:Nat):Int) == 0):=by
  by_cases h:u = 0 <;> simp [h]
 go_enter Tryz.func118,Tryz.ntmps118
 go_wp2_with fail
 refine (U HL _).mono ?_
 rintro e w' ⟨rfl,rfl⟩
 have HD:=M hdec
 clear hdec
 go_wp2_with fail
 go_ret
 exact ⟨zo (U HD).symm,rfl⟩
theorem fx (next:Int) (a:Option Addr) (n cap:Nat) (c:Cm) (w:World) :
  Calls Tryz.prog 41 #[.agg #[H next,.slice a n cap],cmV c] w fun e w'=>e = ym (.agg (yw next c.s (tkS c.p) c.q c.l c.g).toArray)∧yn w w':=by
 obtain ⟨k,s,t,l,q,i,p,g⟩:=c
 unfold cmV
 simp only
 have HT:=M (fun W=>l01Ticks_any p W)
 generalize tkS p = tt at HT ⊢
 generalize tkOk p = tb at HT
 go_enter Tryz.func41,Tryz.ntmps41
 go_wp2_with fail
 refine (U HT _).mono ?_
 rintro e w' ⟨rfl,rfl⟩
 go_wp2_with fail
 go_returns
 exact ⟨rfl,by go_grown⟩
end Go.Proofs.YthhkapcbocgcoaaGreatDoor
