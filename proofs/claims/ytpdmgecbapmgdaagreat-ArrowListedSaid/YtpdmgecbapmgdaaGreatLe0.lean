/- Ground of proofs about package arrow: it says nothing by itself, without a condition. -/
import Derived.Test.YtpdmgecbapmgdaaGreatCx6
import Derived.KernelRfl
import Derived.Test.YtpdmgecbapmgdaaGreatProg
import Derived.Test.YtpdmgecbapmgdaaGreatCx9
import Derived.Conc.WgGenN3
set_option maxRecDepth 100000
section
open Go Go.Cx
namespace Go.Proofs.Tryz
def lf {α : Type} (x : α) : T α := .n .e (some x) .e
noncomputable def typesT : T TypeInfo := (.n (.n (.n (.n (.n (.n (.n (lf t127) (some t63) (lf t191)) (some t31) (.n (lf t159) (some t95) (lf t223))) (some t15) (.n (.n (lf t143) (some t79) (lf t207)) (some t47) (.n (lf t175) (some t111) .e))) (some t7) (.n (.n (.n (lf t135) (some t71) (lf t199)) (some t39) (.n (lf t167) (some t103) .e)) (some t23) (.n (.n (lf t151) (some t87) (lf t215)) (some t55) (.n (lf t183) (some t119) .e)))) (some t3) (.n (.n (.n (.n (lf t131) (some t67) (lf t195)) (some t35) (.n (lf t163) (some t99) (lf t227))) (some t19) (.n (.n (lf t147) (some t83) (lf t211)) (some t51) (.n (lf t179) (some t115) .e))) (some t11) (.n (.n (.n (lf t139) (some t75) (lf t203)) (some t43) (.n (lf t171) (some t107) .e)) (some t27) (.n (.n (lf t155) (some t91) (lf t219)) (some t59) (.n (lf t187) (some t123) .e))))) (some t1) (.n (.n (.n (.n (.n (lf t129) (some t65) (lf t193)) (some t33) (.n (lf t161) (some t97) (lf t225))) (some t17) (.n (.n (lf t145) (some t81) (lf t209)) (some t49) (.n (lf t177) (some t113) .e))) (some t9) (.n (.n (.n (lf t137) (some t73) (lf t201)) (some t41) (.n (lf t169) (some t105) .e)) (some t25) (.n (.n (lf t153) (some t89) (lf t217)) (some t57) (.n (lf t185) (some t121) .e)))) (some t5) (.n (.n (.n (.n (lf t133) (some t69) (lf t197)) (some t37) (.n (lf t165) (some t101) (lf t229))) (some t21) (.n (.n (lf t149) (some t85) (lf t213)) (some t53) (.n (lf t181) (some t117) .e))) (some t13) (.n (.n (.n (lf t141) (some t77) (lf t205)) (some t45) (.n (lf t173) (some t109) .e)) (some t29) (.n (.n (lf t157) (some t93) (lf t221)) (some t61) (.n (lf t189) (some t125) .e)))))) (some t0) (.n (.n (.n (.n (.n (.n (lf t128) (some t64) (lf t192)) (some t32) (.n (lf t160) (some t96) (lf t224))) (some t16) (.n (.n (lf t144) (some t80) (lf t208)) (some t48) (.n (lf t176) (some t112) .e))) (some t8) (.n (.n (.n (lf t136) (some t72) (lf t200)) (some t40) (.n (lf t168) (some t104) .e)) (some t24) (.n (.n (lf t152) (some t88) (lf t216)) (some t56) (.n (lf t184) (some t120) .e)))) (some t4) (.n (.n (.n (.n (lf t132) (some t68) (lf t196)) (some t36) (.n (lf t164) (some t100) (lf t228))) (some t20) (.n (.n (lf t148) (some t84) (lf t212)) (some t52) (.n (lf t180) (some t116) .e))) (some t12) (.n (.n (.n (lf t140) (some t76) (lf t204)) (some t44) (.n (lf t172) (some t108) .e)) (some t28) (.n (.n (lf t156) (some t92) (lf t220)) (some t60) (.n (lf t188) (some t124) .e))))) (some t2) (.n (.n (.n (.n (.n (lf t130) (some t66) (lf t194)) (some t34) (.n (lf t162) (some t98) (lf t226))) (some t18) (.n (.n (lf t146) (some t82) (lf t210)) (some t50) (.n (lf t178) (some t114) .e))) (some t10) (.n (.n (.n (lf t138) (some t74) (lf t202)) (some t42) (.n (lf t170) (some t106) .e)) (some t26) (.n (.n (lf t154) (some t90) (lf t218)) (some t58) (.n (lf t186) (some t122) .e)))) (some t6) (.n (.n (.n (.n (lf t134) (some t70) (lf t198)) (some t38) (.n (lf t166) (some t102) (lf t230))) (some t22) (.n (.n (lf t150) (some t86) (lf t214)) (some t54) (.n (lf t182) (some t118) .e))) (some t14) (.n (.n (.n (lf t142) (some t78) (lf t206)) (some t46) (.n (lf t174) (some t110) .e)) (some t30) (.n (.n (lf t158) (some t94) (lf t222)) (some t62) (.n (lf t190) (some t126) .e)))))))
noncomputable def funcsT : T Func := (.n (.n (.n (.n (.n (.n (.n (lf f127) (some f63) (lf f191)) (some f31) (.n (lf f159) (some f95) .e)) (some f15) (.n (.n (lf f143) (some f79) .e) (some f47) (.n (lf f175) (some f111) .e))) (some f7) (.n (.n (.n (lf f135) (some f71) .e) (some f39) (.n (lf f167) (some f103) .e)) (some f23) (.n (.n (lf f151) (some f87) .e) (some f55) (.n (lf f183) (some f119) .e)))) (some f3) (.n (.n (.n (.n (lf f131) (some f67) .e) (some f35) (.n (lf f163) (some f99) .e)) (some f19) (.n (.n (lf f147) (some f83) .e) (some f51) (.n (lf f179) (some f115) .e))) (some f11) (.n (.n (.n (lf f139) (some f75) .e) (some f43) (.n (lf f171) (some f107) .e)) (some f27) (.n (.n (lf f155) (some f91) .e) (some f59) (.n (lf f187) (some f123) .e))))) (some f1) (.n (.n (.n (.n (.n (lf f129) (some f65) .e) (some f33) (.n (lf f161) (some f97) .e)) (some f17) (.n (.n (lf f145) (some f81) .e) (some f49) (.n (lf f177) (some f113) .e))) (some f9) (.n (.n (.n (lf f137) (some f73) .e) (some f41) (.n (lf f169) (some f105) .e)) (some f25) (.n (.n (lf f153) (some f89) .e) (some f57) (.n (lf f185) (some f121) .e)))) (some f5) (.n (.n (.n (.n (lf f133) (some f69) .e) (some f37) (.n (lf f165) (some f101) .e)) (some f21) (.n (.n (lf f149) (some f85) .e) (some f53) (.n (lf f181) (some f117) .e))) (some f13) (.n (.n (.n (lf f141) (some f77) .e) (some f45) (.n (lf f173) (some f109) .e)) (some f29) (.n (.n (lf f157) (some f93) .e) (some f61) (.n (lf f189) (some f125) .e)))))) (some f0) (.n (.n (.n (.n (.n (.n (lf f128) (some f64) .e) (some f32) (.n (lf f160) (some f96) .e)) (some f16) (.n (.n (lf f144) (some f80) .e) (some f48) (.n (lf f176) (some f112) .e))) (some f8) (.n (.n (.n (lf f136) (some f72) .e) (some f40) (.n (lf f168) (some f104) .e)) (some f24) (.n (.n (lf f152) (some f88) .e) (some f56) (.n (lf f184) (some f120) .e)))) (some f4) (.n (.n (.n (.n (lf f132) (some f68) .e) (some f36) (.n (lf f164) (some f100) .e)) (some f20) (.n (.n (lf f148) (some f84) .e) (some f52) (.n (lf f180) (some f116) .e))) (some f12) (.n (.n (.n (lf f140) (some f76) .e) (some f44) (.n (lf f172) (some f108) .e)) (some f28) (.n (.n (lf f156) (some f92) .e) (some f60) (.n (lf f188) (some f124) .e))))) (some f2) (.n (.n (.n (.n (.n (lf f130) (some f66) .e) (some f34) (.n (lf f162) (some f98) .e)) (some f18) (.n (.n (lf f146) (some f82) .e) (some f50) (.n (lf f178) (some f114) .e))) (some f10) (.n (.n (.n (lf f138) (some f74) .e) (some f42) (.n (lf f170) (some f106) .e)) (some f26) (.n (.n (lf f154) (some f90) .e) (some f58) (.n (lf f186) (some f122) .e)))) (some f6) (.n (.n (.n (.n (lf f134) (some f70) .e) (some f38) (.n (lf f166) (some f102) .e)) (some f22) (.n (.n (lf f150) (some f86) .e) (some f54) (.n (lf f182) (some f118) .e))) (some f14) (.n (.n (.n (lf f142) (some f78) .e) (some f46) (.n (lf f174) (some f110) .e)) (some f30) (.n (.n (lf f158) (some f94) .e) (some f62) (.n (lf f190) (some f126) .e)))))))
abbrev so : Option (T (List Phase)) := some .e
def ph (l : List Nat) (k : Nat) : Phase := ⟨l, l, some k⟩
def pk (k : Nat) : Phase := ⟨[], [], some k⟩
def pe : Phase := ⟨[], [], none⟩
def plans : T (T (List Phase)) := (.n (.n (.n (.n (.n (.n (.n (.n .e so .e) so .e) (some (.n .e none (.n .e none (lf [ph [0, 1, 2, 3, 4, 5, 7, 9] 6, ⟨[], [7, 9], some 8⟩, ⟨[], [9], some 10⟩, pe])))) (.n (.n .e so .e) so .e)) (some (.n .e none (lf [ph [0, 1, 2, 3] 4, ⟨[5], [0, 1, 5], some 6⟩, pk 7, pe]))) (.n (.n (.n .e so .e) so .e) so (.n .e (some (.n (lf [ph [0, 1, 2, 3, 4, 5, 7, 8, 9, 10, 11, 12, 14, 15, 16, 18, 19] 6, ⟨[], [7, 8, 9, 10, 11, 12, 14, 15, 16, 18, 19], some 13⟩, ⟨[], [14, 15, 16, 18, 19], some 17⟩, ⟨[], [18, 19], some 20⟩, pk 21, pk 22, pe]) none .e)) .e))) (some (.n (.n (.n (.n (lf [ph [0, 1, 2, 3, 4, 5, 6, 7, 8, 9] 10, ph [11, 12, 13] 14, ⟨[], [13], some 15⟩, pe]) none .e) none .e) none (.n (lf [ph [0, 1, 2, 3, 4, 5] 6, ph [7, 8, 9] 10, ⟨[], [9], some 11⟩, pe]) none .e)) none .e)) (.n (.n (.n (.n .e so .e) so .e) (some (.n (.n .e none (.n (lf [ph [0, 1, 2, 3, 4, 5, 6, 7, 8, 9] 10, ⟨[11, 12], [0, 11, 12], some 13⟩, pe]) none (lf [ph [0, 1, 2, 3, 4, 5, 6, 7, 8, 9] 10, ⟨[11, 12], [0, 11, 12], some 13⟩, pe]))) none (.n .e none (.n .e none (lf [ph [0, 1, 2, 3, 4, 5, 6, 7] 8, ⟨[], [0, 1, 2, 3, 4, 5], some 9⟩, pk 10, pe]))))) (.n .e so .e)) (some (.n .e none (.n (lf [ph [0, 1, 2, 3] 4, ⟨[], [0], some 5⟩, pk 6, pk 7, pe]) none .e))) (.n (.n .e so .e) so (.n .e so .e)))) (some (.n (.n .e none (lf [ph [0, 1, 2, 3, 4, 5, 6, 7, 8, 9, 11] 10, ⟨[], [11], some 12⟩, ⟨[13, 14], [13, 14], none⟩])) none .e)) (.n (.n (.n (.n (.n .e so .e) (some (.n (.n (.n .e none (lf [ph [0, 1, 2, 3, 4, 5, 6, 7, 8, 9] 10, pk 11, pe])) none (.n .e none (lf [ph [0, 1, 2, 3, 4, 5, 6, 7, 8, 9, 10, 11, 12] 13, pk 14, pe]))) none .e)) .e) (some (.n .e none (.n .e none (.n (lf [ph [0, 1, 2, 3, 4, 5, 6, 8, 9, 10, 11, 12, 13, 14, 17, 18, 19] 7, ⟨[], [8, 9, 10, 11, 12, 13, 14, 17, 18, 19], some 15⟩, ⟨[16], [16, 17, 18, 19], some 20⟩, ⟨[21], [16, 21], none⟩]) none .e)))) (.n .e so .e)) (some (.n .e none (lf [ph [0, 1, 2, 3] 4, ⟨[5], [0, 1, 5], some 6⟩, pk 7, pe]))) (.n (.n .e (some (.n (lf [ph [0, 1, 2, 3, 4, 5, 6, 7, 8, 9, 10] 11, pe]) none .e)) .e) (some (.n (.n .e none (lf [ph [0, 1, 2, 3, 4] 5, ⟨[], [1, 2, 4], some 6⟩, pk 7, pe])) none .e)) (.n .e (some (.n .e none (.n .e none (.n (lf [ph [0, 1, 2, 3, 4, 5, 6] 7, ⟨[], [0, 1, 2, 3], some 8⟩, pe]) none .e)))) .e))) (some (.n (.n (lf [ph [0, 2, 3, 4, 5, 6, 7] 1, ⟨[], [2, 3, 4, 5, 6, 7], some 8⟩, ⟨[], [2, 3, 4, 5, 6, 7], some 9⟩, pe]) none (.n (lf [ph [0, 1, 2, 3, 4, 6, 7, 8, 9, 10] 5, ⟨[], [6, 7, 8, 9, 10], some 11⟩, ph [12] 13, pe]) none .e)) none (.n (.n (lf [ph [0, 1, 2, 3, 4, 5] 6, ⟨[], [1, 2], some 7⟩, ⟨[], [2], some 8⟩, pe]) none .e) none (.n (lf [ph [0, 1, 2, 4, 5] 3, ⟨[], [4, 5], some 6⟩, ph [7] 8, pe]) none .e)))) (.n (.n (.n (.n .e so .e) so .e) (some (.n .e none (.n .e none (lf [⟨[0, 1, 2, 3, 4, 5, 6, 7, 8, 9, 10, 11, 12, 13], [0, 1, 2, 3, 4, 5, 6, 7, 8, 9, 10, 11, 12, 13], none⟩])))) (.n .e so .e)) (some (.n .e none (.n .e none (lf [⟨[0, 1, 2, 3, 4, 5, 6, 7, 8], [0, 1, 2, 3, 4, 5, 6, 7, 8], none⟩])))) (.n (.n .e (some (.n (.n .e none (lf [ph [0, 1, 2, 3] 4, ⟨[], [0], some 5⟩, ph [6, 7, 8] 9, ⟨[], [8], none⟩])) none .e)) .e) so (.n .e so .e))))) none (.n (.n (.n (.n (.n (.n .e so .e) so .e) so (.n (.n .e so .e) so .e)) so (.n (.n (.n .e so .e) so .e) (some (.n .e none (lf [ph [0, 1, 2, 4, 5, 6, 7] 3, ⟨[8], [0, 1, 4, 5, 6, 7, 8], some 9⟩, pk 10, pe]))) (.n .e (some (.n (.n .e none (.n (lf [ph [0, 1, 2, 3, 4, 5, 6, 7, 8, 9] 10, ⟨[11], [0, 11], some 12⟩, pk 13, pe]) none .e)) none .e)) .e))) (some (.n (.n (.n .e none (.n (.n (lf [⟨[0, 1, 2, 3, 4, 5, 6, 7, 8, 9, 10, 11, 12, 13, 14], [0, 1, 2, 3, 4, 5, 6, 7, 8, 9, 10, 11, 12, 13, 14], none⟩]) none .e) none .e)) none (.n (.n .e none (lf [⟨[0, 1, 2, 3, 4, 5, 6, 7, 8, 9, 10, 11, 12, 13, 14, 15, 16, 17, 18, 19, 20, 21, 22, 23, 24, 25, 26, 27, 28], [0, 1, 2, 3, 4, 5, 6, 7, 8, 9, 10, 11, 12, 13, 14, 15, 16, 17, 18, 19, 20, 21, 22, 23, 24, 25, 26, 27, 28], none⟩])) none (.n (lf [ph [0, 1, 2, 3, 4, 5, 6] 7, pk 8, pe]) none .e))) none (.n (.n .e none (.n (.n (lf [ph [0, 1, 2, 3, 4, 5, 6, 7, 8, 9, 10, 11, 12, 13, 14, 15] 16, ph [17] 18, pe]) none .e) (some [ph [0, 1, 2, 3, 4, 5, 6, 7] 8, pe]) .e)) none (.n (.n .e none (lf [ph [0, 1, 2, 4, 5, 6, 7, 8, 9] 3, ⟨[], [4, 5, 6, 7, 8, 9], some 10⟩, ⟨[], [4, 5, 6, 7, 8, 9], some 11⟩, pe])) none .e)))) (.n (.n (.n (.n .e so .e) so .e) so (.n .e so .e)) so (.n (.n .e so .e) so (.n .e so .e)))) so (.n (.n (.n (.n (.n .e so .e) (some (.n .e none (.n .e none (lf [ph [0, 1, 2, 3, 4, 5, 6, 7, 8, 9, 10, 11, 12, 13, 14] 15, ⟨[16, 17], [16, 17], none⟩])))) .e) so (.n (.n .e so .e) so .e)) (some (.n .e none (.n .e none (lf [⟨[0, 1, 2, 3, 4, 5, 6, 7, 8], [0, 1, 2, 3, 4, 5, 6, 7, 8], none⟩])))) (.n (.n .e so .e) so (.n .e so .e))) so (.n (.n (.n (.n .e so .e) so .e) so (.n .e so .e)) so (.n (.n (.n .e so .e) so .e) so (.n .e so .e)))))) none (.n (.n (.n (.n (.n (.n (.n .e (some (.n .e none (.n (lf [ph [0, 1, 3, 4, 6, 7, 9, 10] 2, ⟨[], [3, 4, 6, 7, 9, 10], some 5⟩, ⟨[], [6, 7, 9, 10], some 8⟩, ⟨[], [9, 10], some 11⟩, ph [12] 13, pk 14, pe]) none .e))) .e) so .e) (some (.n .e none (.n .e none (lf [⟨[0, 1, 2, 3, 4, 5, 6, 7, 8, 9, 10], [0, 1, 2, 3, 4, 5, 6, 7, 8, 9, 10], none⟩])))) (.n (.n .e so .e) so .e)) so (.n (.n (.n .e so .e) so .e) (some (.n .e none (lf [ph [0, 1, 2, 3] 4, ⟨[5], [0, 1, 5], some 6⟩, pk 7, pe]))) (.n .e so .e))) (some (.n (.n (lf [ph [0, 1, 3, 4, 5, 6, 7, 8, 9, 10, 11] 2, ⟨[], [3, 4, 5, 6, 7, 8, 9, 10, 11], some 12⟩, ⟨[], [3, 4, 5, 6, 7, 8, 9, 10, 11], some 13⟩, ⟨[], [9, 10, 11], some 14⟩, pe]) none .e) none (.n (.n .e none (.n (lf [ph [0, 1, 2, 3, 4, 10] 5, ⟨[], [0, 1, 2, 10], some 6⟩, ⟨[7, 8, 9], [7, 8, 9, 10], some 11⟩, ⟨[], [9], some 12⟩, pe]) none .e)) none .e))) (.n (.n (.n (.n .e so .e) so .e) so (.n (.n .e so .e) so .e)) (some (.n .e none (.n .e none (lf [ph [0, 1, 2, 3, 4, 5, 6, 7] 8, ⟨[9], [9], none⟩])))) (.n (.n (.n .e so .e) so .e) so (.n .e so .e)))) so (.n (.n (.n (.n (.n .e (some (lf [ph [0, 1, 2] 3, ⟨[4], [0, 4], some 5⟩, pe])) .e) so .e) so (.n .e so .e)) so (.n (.n (.n .e so .e) so .e) (some (.n (.n (.n .e (some [ph [0, 1, 2, 4, 6, 7, 8, 9, 10] 3, ⟨[], [0, 1, 4, 6, 7, 8, 9, 10], some 5⟩, ⟨[11], [0, 1, 6, 7, 8, 9, 10, 11], some 12⟩, pk 13, pe]) (lf [⟨[0, 1, 2, 3, 4, 5, 6, 7, 8, 9, 10, 11, 12, 13, 14, 15, 16, 17, 18], [0, 1, 2, 3, 4, 5, 6, 7, 8, 9, 10, 11, 12, 13, 14, 15, 16, 17, 18], none⟩])) none (.n .e none (lf [ph [0, 1, 2, 3] 4, ⟨[], [2, 3], some 5⟩, pk 6, pe]))) none .e)) (.n .e so .e))) (some (.n (.n (.n .e none (.n (lf [ph [0, 1, 2, 3, 4, 5, 6, 7, 8, 9, 10, 11, 12, 14] 13, ⟨[], [14], some 15⟩, ph [16, 17, 18, 19] 20, ph [21, 22, 23] 24, ph [25] 26, pe]) none .e)) none (.n (lf [ph [0, 1, 2, 3, 4, 5, 6, 7, 8, 9, 10, 11, 12] 13, ph [14] 15, pe]) none .e)) none .e)) (.n (.n (.n (.n .e (some (.n .e none (.n .e (some [ph [0, 1] 2, ⟨[], [0], some 3⟩, pk 4, pe]) (lf [ph [0, 1, 2, 3, 5, 6] 4, ⟨[], [0, 5, 6], some 7⟩, ⟨[8], [8], none⟩])))) .e) so .e) (some (.n (.n .e none (lf [ph [0, 1, 2, 3, 4, 5, 6, 7, 8] 9, pe])) none (.n (lf [⟨[0, 1, 2, 3, 4, 5, 6, 7, 8], [0, 1, 2, 3, 4, 5, 6, 7, 8], none⟩]) none .e))) (.n (.n .e so .e) so .e)) (some (.n (.n (.n (lf [ph [0, 2] 1, ⟨[], [2], some 3⟩, ph [4] 5, pk 6, pe]) none .e) none .e) none (lf [ph [0, 1, 2, 3] 4, ⟨[5], [0, 1, 5], some 6⟩, pk 7, pe]))) (.n (.n .e so .e) so (.n .e so .e))))) so (.n (.n (.n (.n (.n (.n .e so .e) (some (.n (lf [ph [0, 1, 2, 3, 4, 5, 6, 10, 11, 12, 13, 14, 15, 16, 20, 21] 7, ⟨[8, 9], [8, 9, 10, 11, 12, 13, 14, 15, 16, 20, 21], some 17⟩, ⟨[18, 19], [8, 9, 18, 19, 20, 21], some 22⟩, ⟨[], [18, 19], some 23⟩, pe]) none .e)) .e) so (.n .e so .e)) (some (.n (.n (.n (.n (lf [⟨[0, 1, 2, 3, 4, 5, 6, 7, 8], [0, 1, 2, 3, 4, 5, 6, 7, 8], none⟩]) none .e) none .e) none .e) none .e)) (.n (.n (.n .e so .e) so .e) (some (.n .e none (lf [ph [0, 1, 2, 4, 6, 8, 9, 10, 11] 3, ⟨[], [0, 1, 4, 6, 8, 9, 10, 11], some 5⟩, ⟨[], [0, 1, 6, 8, 9, 10, 11], some 7⟩, ⟨[12], [0, 1, 8, 9, 10, 11, 12], some 13⟩, pk 14, pe]))) (.n .e so .e))) (some (.n (.n (.n (.n .e none (lf [ph [0, 1, 2, 3, 4, 5, 6, 7, 8, 9] 10, ph [11] 12, pe])) none .e) none (.n .e none (lf [ph [0, 1, 2, 3, 4, 5, 6, 7, 8, 9, 10, 11, 12, 13, 14, 15, 16] 17, ph [18, 19, 20, 21, 22, 23, 24, 25, 26, 27, 28, 29, 30, 31, 32] 33, ⟨[34, 35, 36], [34, 35, 36], none⟩]))) none .e)) (.n (.n (.n (.n .e so .e) (some (.n .e none (.n .e none (lf [ph [0, 1, 2, 3, 4, 6, 7, 8, 9] 5, ⟨[], [0, 1, 2, 6, 7, 8, 9], some 10⟩, ⟨[], [0, 1, 2], some 11⟩, pk 12, pe])))) .e) (some (.n .e none (.n .e none (lf [ph [0, 1, 2, 3] 4, ph [5, 6, 7, 8, 9, 10, 11, 12, 13, 14, 15, 16, 17] 18, ⟨[19, 20, 21, 22, 23, 24, 25, 26, 27, 28, 29, 30, 31, 32, 33, 34, 35, 36, 37], [19, 20, 21, 22, 23, 24, 25, 26, 27, 28, 29, 30, 31, 32, 33, 34, 35, 36, 37], none⟩])))) (.n .e so .e)) (some (.n .e none (.n (lf [ph [0, 1, 2, 3] 4, ⟨[], [0], some 5⟩, pk 6, pk 7, pe]) none .e))) (.n (.n .e so .e) (some (.n .e none (.n (.n (lf [ph [0, 1, 2, 3, 4, 5, 7, 8] 6, ⟨[9], [0, 1, 7, 8, 9], some 10⟩, pe]) none .e) none .e))) (.n .e so .e)))) (some (.n (.n .e none (.n (.n (lf [ph [0, 1, 2, 3, 5, 6, 7, 8] 4, ⟨[], [5, 6, 7, 8], some 9⟩, pk 10, pk 11, pe]) none .e) none .e)) none (.n (.n (.n (lf [ph [0, 1, 2, 3, 5, 6, 7, 8] 4, ⟨[], [5, 6, 7, 8], some 9⟩, pk 10, pk 11, pe]) none .e) none .e) none (.n (.n (lf [ph [0, 1, 2, 3, 4, 5, 7, 8, 9, 10, 11, 13] 6, ⟨[], [7, 8, 9, 10, 11, 13], some 12⟩, ⟨[], [13], some 14⟩, pe]) none .e) none (lf [ph [0, 1, 2, 3, 4, 5, 6, 7, 9, 10, 11, 12, 13, 14, 15, 16, 18, 19] 8, ⟨[], [9, 10, 11, 12, 13, 14, 15, 16, 18, 19], some 17⟩, ⟨[], [18, 19], some 20⟩, pk 21, pe]))))) (.n (.n (.n (.n (.n .e (some (.n (lf [ph [0, 1, 2, 3, 4, 5, 6, 7, 8, 10, 11, 17] 9, ⟨[], [10, 11, 17], some 12⟩, ⟨[], [17], some 13⟩, ⟨[14, 15, 16], [14, 15, 16, 17], some 18⟩, ⟨[], [16], some 19⟩, pe]) none .e)) .e) so .e) so (.n (.n .e so .e) so .e)) so (.n (.n .e so .e) so (.n .e so .e))) (some (.n (.n (.n (.n .e none (lf [ph [0] 1, ⟨[2, 3, 4], [0, 2, 3, 4], some 5⟩, ⟨[6, 7, 8, 9], [4, 6, 7, 8, 9], some 10⟩, ⟨[11, 12, 13, 14, 15, 16, 17, 18, 19, 20, 21, 22, 23, 24, 25, 26, 27, 28, 29, 30, 31, 32, 33, 34], [9, 11, 12, 13, 14, 15, 16, 17, 18, 19, 20, 21, 22, 23, 24, 25, 26, 27, 28, 29, 30, 31, 32, 33, 34], some 35⟩, ⟨[36, 37, 38, 39, 40], [34, 36, 37, 38, 39, 40], some 41⟩, ph [42, 43, 44, 45] 46, ph [47] 48, pe])) none .e) none .e) none .e)) (.n (.n (.n (.n .e so .e) so .e) so (.n .e so .e)) (some (.n (.n (.n (lf [ph [0, 1, 2, 3, 8] 4, ⟨[5, 6, 7], [5, 6, 7, 8], some 9⟩, ⟨[], [7], some 10⟩, pe]) none .e) none .e) none (.n .e (some [ph [0, 1, 2, 3, 5, 7] 4, ⟨[], [0, 1, 5, 7], some 6⟩, ⟨[], [0, 1, 7], some 8⟩, ⟨[9], [0, 1, 9], some 10⟩, pk 11, pe]) (lf [ph [1, 5, 6, 7, 8] 0, ⟨[2, 3, 4], [1, 2, 3, 4, 5, 6, 7, 8], some 9⟩, pk 10, pe])))) (.n (.n (.n .e so .e) so .e) so (.n .e (some (.n (lf [ph [0, 1, 2, 3, 5, 6, 7, 8, 9, 10, 11, 12, 14, 15, 16, 17, 19, 20, 21, 22] 4, ⟨[], [5, 6, 7, 8, 9, 10, 11, 12, 14, 15, 16, 17, 19, 20, 21, 22], some 13⟩, ⟨[], [14, 15, 16, 17, 19, 20, 21, 22], some 18⟩, ⟨[], [19, 20, 21, 22], some 23⟩, ph [24] 25, pk 26, pe]) none .e)) .e)))))))
noncomputable def tab : Tab := { types := typesT, funcs := funcsT, prog := prog }
def cfg : Cfg := { add := 143, done := 146, wait := 133, bW := 6378, bB := 6377, dB := 3, bR := 6376, dR := 2, nR := 182, n := 91, fuel := 1000000 }
noncomputable def x0 : L := match zIa tab 14 [] false with
  | some fr => { s := { fr, cs := [], h := ⟨.e, 0, 0, [], 1000000000⟩ }, reg := none, lay := [] }
  | none => { s := { fr := { fn := 0, nt := 0, tmps := .e, todo := [], defers := [], ret := false, deferred := false, round := none }, cs := [], h := ⟨.e, 0, 0, [], 0⟩ }, reg := none, lay := [] }
end Go.Proofs.Tryz
end
section
open Go Go.Cx
namespace Go.Proofs
theorem Tryz.tn : Tryz.prog.types.toList.length = 231 := by kernel_rfl
theorem Tryz.fn : Tryz.prog.funcs.toList.length = 192 := by kernel_rfl
theorem Tryz.tk : (Tryz.typesT.keys.all fun k => Nat.blt k 231) = true := by kernel_rfl
theorem Tryz.fk : (Tryz.funcsT.keys.all fun k => Nat.blt k 192) = true := by kernel_rfl
theorem Tryz.te : (List.range 231).map Tryz.typesT.get = Tryz.prog.types.toList.map some := by kernel_rfl
theorem Tryz.fe : (List.range 192).map Tryz.funcsT.get = Tryz.prog.funcs.toList.map some := by kernel_rfl
theorem Tryz.nn : (Tryz.prog.funcs.toList.all fun f => !(f.name == "runtime.NumGoroutine")) = true := by kernel_rfl
theorem Tryz.hmix : Tryz.prog.follows .mixedOrders = true := by kernel_rfl
theorem Tryz.tabOk : TabOk Tryz.tab := by
  refine ⟨fun t i h => ?_, fun f fn h => ?_, fun f fn h e => ?_⟩
  · have := table_ok 231 Tryz.tn Tryz.tk Tryz.te t i h
    rw [Array.getElem?_toList] at this
    have hlt := (Array.getElem?_eq_some_iff.1 this).1
    show Tables.info? _ t = some i
    unfold Tables.info?
    exact (if_pos hlt).trans this
  · have := table_ok 192 Tryz.fn Tryz.fk Tryz.fe f fn h
    rw [Array.getElem?_toList] at this
    exact this
  · have := table_ok 192 Tryz.fn Tryz.fk Tryz.fe f fn h
    have := List.all_eq_true.1 Tryz.nn fn (List.mem_of_getElem? this)
    simp [e] at this
end Go.Proofs
end
namespace Go.Proofs
section
abbrev Tryz.link : Go.Conc.Lib.WgLink := { add := 143, done := 146, wait := 133, relMerge := 162, disable := 147, enable := 149, inBubble := 155, associate := 163, fatal := 164, uOr := 165, uAdd := 166, raceRead := 167, uLoad := 148, uStore := 168, disassociate := 153, semrelease := 169, acquire := 150, isAssociated := 151, uCas := 152, raceWrite := 154, semacquire := 156, orU64 := 173, addU64 := 174, loadU64 := 170, storeU64 := 175, casU64 := 171, tWgP := 189, tUP := 194, tAssoc := 203, tWg := 180, tAU := 177, tU64 := 175, tUint := 192, tU32 := 178, tPU32 := 198, tPAU := 209, tPU64 := 211, tNoCopy := 172, tANoCopy := 173, tAlign64 := 174 }
theorem Tryz.wgLib : Go.Conc.Lib.WgLib Tryz.prog Tryz.link :=
  ⟨Tryz.func143, Tryz.func146, Tryz.func133, Tryz.func162, Tryz.func147, Tryz.func149, Tryz.func155, Tryz.func163, Tryz.func164, Tryz.func165, Tryz.func166, Tryz.func167, Tryz.func148, Tryz.func168, Tryz.func153, Tryz.func169, Tryz.func150, Tryz.func151, Tryz.func152, Tryz.func154, Tryz.func156, Tryz.func173, Tryz.func174, Tryz.func170, Tryz.func175, Tryz.func171, Tryz.underlying189, Tryz.runUnderlying189, Tryz.sizeOf189, Tryz.isAgg189, Tryz.zeroValue189, Tryz.underlying194, Tryz.runUnderlying194, Tryz.sizeOf194, Tryz.isAgg194, Tryz.zeroValue194, Tryz.underlying203, Tryz.runUnderlying203, Tryz.sizeOf203, Tryz.isAgg203, Tryz.zeroValue203, Tryz.underlying180, Tryz.runUnderlying180, Tryz.sizeOf180, Tryz.isAgg180, Tryz.zeroValue180, Tryz.underlying177, Tryz.runUnderlying177, Tryz.sizeOf177, Tryz.isAgg177, Tryz.zeroValue177, Tryz.underlying175, Tryz.runUnderlying175, Tryz.sizeOf175, Tryz.isAgg175, Tryz.zeroValue175, Tryz.underlying192, Tryz.runUnderlying192, Tryz.sizeOf192, Tryz.isAgg192, Tryz.zeroValue192, Tryz.underlying178, Tryz.runUnderlying178, Tryz.sizeOf178, Tryz.isAgg178, Tryz.zeroValue178, Tryz.underlying198, Tryz.runUnderlying198, Tryz.sizeOf198, Tryz.isAgg198, Tryz.zeroValue198, Tryz.underlying209, Tryz.runUnderlying209, Tryz.sizeOf209, Tryz.isAgg209, Tryz.zeroValue209, Tryz.underlying211, Tryz.runUnderlying211, Tryz.sizeOf211, Tryz.isAgg211, Tryz.zeroValue211, Tryz.underlying0, Tryz.runUnderlying0, Tryz.sizeOf0, Tryz.isAgg0, Tryz.zeroValue0, Tryz.underlying3, Tryz.runUnderlying3, Tryz.sizeOf3, Tryz.isAgg3, Tryz.zeroValue3, Tryz.underlying4, Tryz.runUnderlying4, Tryz.sizeOf4, Tryz.isAgg4, Tryz.zeroValue4, Tryz.underlying9, Tryz.runUnderlying9, Tryz.sizeOf9, Tryz.isAgg9, Tryz.zeroValue9, Tryz.underlying20, Tryz.runUnderlying20, Tryz.sizeOf20, Tryz.isAgg20, Tryz.zeroValue20, Tryz.underlying21, Tryz.runUnderlying21, Tryz.sizeOf21, Tryz.isAgg21, Tryz.zeroValue21, (by kernel_rfl), (by kernel_rfl)⟩
end
end Go.Proofs
section
open Go Go.Cx
noncomputable section
namespace Go.Proofs.Tryz
def en {α : Type} : Nat → List α → List (Nat × α)
  | _, [] => []
  | k, x :: l => (k, x) :: en (k + 1) l
def ca (k : Nat) (l : List Nat) : Code := cAt tab k l
def cd (k : Nat) (l : List Nat) : AI := .code (cAt tab k l)
def oa (k : Nat) (l : List Nat) : Array Oper := oAt tab k l
def rg (k : Nat) (l : List Nat) (i : Nat) : AI := regAt tab k l i
def q382 := vS 3199 0 2 2
def q383 := vS 3942 0 1 1
def q388 := vI 0
def q339 : Value := (.tuple #[q382, q383, q388])
def q378 : Value := (.agg #[(vI 93), (vI 102)])
def q342 : Value := (.tuple #[q378, q388])
def q379 : Value := (.agg #[(vI 93), (vI 100)])
def q343 : Value := (.tuple #[q379, q388])
def q380 : Value := (.agg #[(vI 73), (vI 80)])
def q344 : Value := (.tuple #[q380, q388])
def q381 := vS 2198 0 3 3
def q350 : Value := (.tuple #[q381, q388])
def q393 := vI 4
def q351 : Value := (.tuple #[(vI 76), q393, q388])
def q391 := vI 1
def q356 : Value := (.tuple #[q391, q388])
def q357 : Value := (.tuple #[q388, q388])
def q392 := vI 2
def q358 : Value := (.tuple #[q392, q388])
def q363 := vS 1295 0 2 2
def q364 := vS 1927 0 3 3
def q367 := vS 663 0 2 2
def q368 := vS 30 0 3 3
def q389 := vS 22 0 7 7
def q390 := vI 3
def q376 : Value := (.agg #[(vI 10), q392, (vI 5), q390, q389])
def q377 : Value := (.agg #[q392, q393, q391, q392, (vS 27 0 3 3)])
def q0 : T Value := (mkT (en 0 [vF, (vP 28 0), (vP 29 0), q391, q388, q388, q388, q392, q388, q381, q388, q382, q383, q388, q391, q388, (vP 5531 0), q388, (vP 5674 0), q388, (vP 5817 0), q388, q391, q388, q388, q388, (vI 76), q393, q388] ++ en 37 [q376, q377, q356, q376, q368, q356, q391, q388, q357, q376, q367, q357, q388, q388, q358, q376, q363, q358, q392, q388, q350, q376, q364, q350, q381, q388, q339, q376, q339, q382, q383, q388, q356, q376, q356, q391, q388, q342, q377, q342, q378, q388, q343, q377, q343, q379, q388, q344, q377, q344, q380, q388, q356, q377, q356, q391, q388, q357, q377, q357, q388, q388, q351, q377, q351, (vI 76), q393, q388] ++ [(106, q377)]))
def q328 : Value := (.agg #[(vI 10), q392, (vI 5), q390, q389, q388, q391, q391, q388, q391, q391, q392, q388, q388, q388, q388, q391, q391, q391, q391, q392, q388, q388, q388, q388, q388, q388, q391, q391, q392, q388, q388, q388, q388, q388, q388, q391, q391, q392, q388, q388, q388, q388, q388, q388, q388, q391, q392, q388, q388, q388, q388, q388, q388, q388, q388, q392, q388, q388, q388, q388, q388, q388, q388, q388, q388, q388, q388, q388, q388, q388, q388, q388, q388, q388, q388, q388, q388, q388, q388, q388, q388, q388, q388, q388, q388])
def q371 := vP 4580 0
def q372 := vP 4579 0
def q1 : T Value := (mkT (en 0 [q328, (vP 4577 0), (.slice none 0 0), (vP 4578 0)] ++ en 5 [q328, (vP 4577 0), (vP 4577 0), (vP 4577 0), (vP 4577 3), q390, (.func (.func 139) #[] #[q371, q372])]))
def q329 : Value := (.func (.func 56) #[q376] #[])
def q340 : Value := (.func (.func 123) #[] #[(vP 3945 0), (vP 3946 0)])
def q348 : Value := (.agg #[vF, vF, vF, vT, vF, vF, vF, vF, vF])
def q2 : T Value := (mkT (en 0 [q376, q390, (vP 3943 0)] ++ en 4 [q388, q388, (vP 3944 0), q388, (vP 4149 0), q376, q376, q376, q329, q376, q390, q340, (vS 3947 0 2 2), q388, q388, vF] ++ en 21 [q390, (vP 4149 3), q376, q328, q348]))
def q3 : T Value := (mkT (en 0 [vF, (vP 28 0), (vP 29 0), q391, q388, q388, q388, q392, q388, q381, q388, q382, q383, q388] ++ en 37 [q376, q377, q356, q376, q368, q356, q391, q388, q357, q376, q367, q357, q388, q388, q358, q376, q363, q358, q392, q388, q350, q376, q364, q350, q381, q388, q339, q376, q339, q382, q383, q388] ++ [(70, q376)]))
def q330 : Value := (.func (.func 85) #[q377] #[])
def q331 : Value := (.func (.func 89) #[q377] #[])
def q332 : Value := (.func (.func 90) #[q377] #[])
def q387 : Fn := (.func 124)
def q336 : Value := (.func q387 #[] #[(vP 6263 0), (vP 6264 0), (vP 6265 0)])
def q337 : Value := (.func q387 #[] #[(vP 6266 0), (vP 6267 0), (vP 6268 0)])
def q341 : Value := (.func (.func 92) #[] #[(vP 6259 0), (vP 6260 0)])
def q4 : T Value := (mkT (en 0 [q377, (vI 10), (vI 30), (vP 6258 0), (vP 6259 0), (vP 6260 0), q388, (vP 6261 0), q388, (vP 6262 0), q341] ++ en 13 [q377, q377, q341, q377, q330, (vI 10), q336, (vI 30), q337, q341, q377, q331, q377, q332, (vS 6269 0 6 6), q388, q388, vF] ++ [(33, q377)]))
def q345 : Value := (.agg #[vF, vF, vF, vF, vF, vF, vF, vF, vF])
def q5 : T Value := (mkT (en 0 [q376, (vP 2199 0), (.slice none 0 0), (.slice none 0 0), q388, (vP 2200 0), q388] ++ en 9 [q376, q376, q376, q388, q388, vF] ++ en 16 [q376, q328, q345]))
def q6 : T Value := (mkT (en 0 [vF, (vP 28 0), (vP 29 0), q391, q388, q388, q388, q392, q388, q381, q388] ++ en 37 [q376, q377, q356, q376, q368, q356, q391, q388, q357, q376, q367, q357, q388, q388, q358, q376, q363, q358, q392, q388, q350, q376, q364, q350, q381, q388] ++ [(64, q376)]))
def q7 : Nat × AObj := row 6376 0 [oI 0, oI 0, oI 0, oI 0, oI 0, oI 0, oI 0, oI 0, oI 0, oI 0, oI 0, oI 0, oI 0, oI 0, oI 0, oI 0, oI 0, oI 0, oI 0, oI 0, oI 0, oI 0, oI 0, oI 0, oI 0, oI 0, oI 0, oI 0, oI 0, oI 0, oI 0, oI 0, oI 0, oI 0, oI 0, oI 0, oI 0, oI 0, oI 0, oI 0, oI 0, oI 0, oI 0, oI 0, oI 0, oI 0, oI 0, oI 0, oI 0, oI 0, oI 0, oI 0, oI 0, oI 0, oI 0, oI 0, oI 0, oI 0, oI 0, oI 0, oI 0, oI 0, oI 0, oI 0, oI 0, oI 0, oI 0, oI 0, oI 0, oI 0, oI 0, oI 0, oI 0, oI 0, oI 0, oI 0, oI 0, oI 0, oI 0, oI 0, oI 0, oI 0, oI 0, oI 0, oI 0, oI 0, oI 0, oI 0, oI 0, oI 0, oI 0, oI 0, oI 0, oI 0, oI 0, oI 0, oI 0, oI 0, oI 0, oI 0, oI 0, oI 0, oI 0, oI 0, oI 0, oI 0, oI 0, oI 0, oI 0, oI 0, oI 0, oI 0, oI 0, oI 0, oI 0, oI 0, oI 0, oI 0, oI 0, oI 0, oI 0, oI 0, oI 0, oI 0, oI 0, oI 0, oI 0, oI 0, oI 0, oI 0, oI 0, oI 0, oI 0, oI 0, oI 0, oI 0, oI 0, oI 0, oI 0, oI 0, oI 0, oI 0, oI 0, oI 0, oI 0, oI 0, oI 0, oI 0, oI 0, oI 0, oI 0, oI 0, oI 0, oI 0, oI 0, oI 0, oI 0, oI 0, oI 0, oI 0, oI 0, oI 0, oI 0, oI 0, oI 0, oI 0, oI 0, oI 0, oI 0, oI 0, oI 0, oI 0, oI 0, oI 0, oI 0, oI 0, oI 0, oI 0, oI 0, oI 0, oI 0, oI 0]
def q8 : Nat × AObj := row 6377 0 [oI 0, oI 0, oI 0, oI 0, oI 0, oI 0, oI 0, oI 0, oI 0, oI 0, oI 0, oI 0, oI 0, oI 0, oI 0, oI 0, oI 0, oI 0, oI 0, oI 0, oI 0, oI 0, oI 0, oI 0, oI 0, oI 0, oI 0, oI 0, oI 0, oI 0, oI 0, oI 0, oI 0, oI 0, oI 0, oI 0, oI 0, oI 0, oI 0, oI 0, oI 0, oI 0, oI 0, oI 0, oI 0, oI 0, oI 0, oI 0, oI 0, oI 0, oI 0, oI 0, oI 0, oI 0, oI 0, oI 0, oI 0, oI 0, oI 0, oI 0, oI 0, oI 0, oI 0, oI 0, oI 0, oI 0, oI 0, oI 0, oI 0, oI 0, oI 0, oI 0, oI 0, oI 0, oI 0, oI 0, oI 0, oI 0, oI 0, oI 0, oI 0, oI 0, oI 0, oI 0, oI 0, oI 0, oI 0, oI 0, oI 0, oI 0, oI 0, oI 0, oI 0, oI 0, oI 0, oI 0, oI 0, oI 0, oI 0, oI 0, oI 0, oI 0, oI 0, oI 0, oI 0, oI 0, oI 0, oI 0, oI 0, oI 0, oI 0, oI 0, oI 0, oI 0, oI 0, oI 0, oI 0, oI 0, oI 0, oI 0, oI 0, oI 0, oI 0, oI 0, oI 0, oI 0, oI 0, oI 0, oI 0, oI 0, oI 0, oI 0, oI 0, oI 0, oI 0, oI 0, oI 0, oI 0, oI 0, oI 0, oI 0, oI 0, oI 0, oI 0, oI 0, oI 0, oI 0, oI 0, oI 0, oI 0, oI 0, oI 0, oI 0, oI 0, oI 0, oI 0, oI 0, oI 0, oI 0, oI 0, oI 0, oI 0, oI 0, oI 0, oI 0, oI 0, oI 0, oI 0, oI 0, oI 0, oI 0, oI 0, oI 0, oI 0, oI 0, oI 0, oI 0, oI 0, oI 0, oI 0, oI 0, oI 0]
def q9 : Nat × AObj := row 6376 0 [oU, oU, oU, oU, oU, oU, oU, oU, oU, oU, oU, oU, oU, oU, oU, oU, oU, oU, oU, oU, oU, oU, oU, oU, oU, oU, oU, oU, oU, oU, oU, oU, oU, oU, oU, oU, oU, oU, oU, oU, oU, oU, oU, oU, oU, oU, oU, oU, oU, oU, oU, oU, oU, oU, oU, oU, oU, oU, oU, oU, oU, oU, oU, oU, oU, oU, oU, oU, oU, oU, oU, oU, oU, oU, oU, oU, oU, oU, oU, oU, oU, oU, oU, oU, oU, oU, oU, oU, oU, oU, oU, oU, oU, oU, oU, oU, oU, oU, oU, oU, oU, oU, oU, oU, oU, oU, oU, oU, oU, oU, oU, oU, oU, oU, oU, oU, oU, oU, oU, oU, oU, oU, oU, oU, oU, oU, oU, oU, oU, oU, oU, oU, oU, oU, oU, oU, oU, oU, oU, oU, oU, oU, oU, oU, oU, oU, oU, oU, oU, oU, oU, oU, oU, oU, oU, oU, oU, oU, oU, oU, oU, oU, oU, oU, oU, oU, oU, oU, oU, oU, oU, oU, oU, oU, oU, oU, oU, oU, oU, oU, oU, oU]
def q10 : Nat × AObj := row 6377 0 [oU, oU, oU, oU, oU, oU, oU, oU, oU, oU, oU, oU, oU, oU, oU, oU, oU, oU, oU, oU, oU, oU, oU, oU, oU, oU, oU, oU, oU, oU, oU, oU, oU, oU, oU, oU, oU, oU, oU, oU, oU, oU, oU, oU, oU, oU, oU, oU, oU, oU, oU, oU, oU, oU, oU, oU, oU, oU, oU, oU, oU, oU, oU, oU, oU, oU, oU, oU, oU, oU, oU, oU, oU, oU, oU, oU, oU, oU, oU, oU, oU, oU, oU, oU, oU, oU, oU, oU, oU, oU, oU, oU, oU, oU, oU, oU, oU, oU, oU, oU, oU, oU, oU, oU, oU, oU, oU, oU, oU, oU, oU, oU, oU, oU, oU, oU, oU, oU, oU, oU, oU, oU, oU, oU, oU, oU, oU, oU, oU, oU, oU, oU, oU, oU, oU, oU, oU, oU, oU, oU, oU, oU, oU, oU, oU, oU, oU, oU, oU, oU, oU, oU, oU, oU, oU, oU, oU, oU, oU, oU, oU, oU, oU, oU, oU, oU, oU, oU, oU, oU, oU, oU, oU, oU, oU, oU, oU, oU, oU, oU, oU, oU]
def q11 : Value := (.agg #[(vI 10), q392, (vI 5), q390, q389, q388, q388, q388, q388, q388, q388, q388, q388, q388, q388, q388, q388, q388, q388, q388, q388, q388, q388, q388, q388, q388, q388, q388, q388, q388, q388, q388, q388, q388, q388, q388, q388, q388, q388, q388, q388, q388, q388, q388, q388, q388, q388, q388, q388, q388, q388, q388, q388, q388, q388, q388, q388, q388, q388, q388, q388, q388, q388, q388, q388, q388, q388, q388, q388, q388, q388, q388, q388, q388, q388, q388, q388, q388, q388, q388, q388, q388, q388, q388, q388, q388])
def q12 : Nat × AObj := row 2824 0 [oI 10, oI 2, oI 5, oI 3, oS 22 0 7 7, oI 0, oI 1, oI 1, oI 0, oI 1, oI 1, oI 2, oI 0, oI 0, oI 0, oI 0, oI 1, oI 1, oI 1, oI 1, oI 2, oI 0, oI 0, oI 0, oI 0, oI 0, oI 0, oI 1, oI 1, oI 2, oI 0, oI 0, oI 0, oI 0, oI 0, oI 0, oI 1, oI 1, oI 2, oI 0, oI 0, oI 0, oI 0, oI 0, oI 0, oI 0, oI 1, oI 2, oI 0, oI 0, oI 0, oI 0, oI 0, oI 0, oI 0, oI 0, oI 2, oI 0, oI 0, oI 0, oI 0, oI 0, oI 0, oI 0, oI 0, oI 0, oI 0, oI 0, oI 0, oI 0, oI 0, oI 0, oI 0, oI 0, oI 0, oI 0, oI 0, oI 0, oI 0, oI 0, oI 0, oI 0, oI 0, oI 0, oI 0, oI 0]
def q13 : Nat × AObj := row 4573 0 [oI 10, oI 2, oI 5, oI 3, oS 22 0 7 7, oI 0, oI 1, oI 1, oI 0, oI 1, oI 1, oI 2, oI 0, oI 0, oI 0, oI 0, oI 1, oI 1, oI 1, oI 1, oI 2, oI 0, oI 0, oI 0, oI 0, oI 0, oI 0, oI 1, oI 1, oI 2, oI 0, oI 0, oI 0, oI 0, oI 0, oI 0, oI 1, oI 1, oI 2, oI 0, oI 0, oI 0, oI 0, oI 0, oI 0, oI 0, oI 1, oI 2, oI 0, oI 0, oI 0, oI 0, oI 0, oI 0, oI 0, oI 0, oI 2, oI 0, oI 0, oI 0, oI 0, oI 0, oI 0, oI 0, oI 0, oI 0, oI 0, oI 0, oI 0, oI 0, oI 0, oI 0, oI 0, oI 0, oI 0, oI 0, oI 0, oI 0, oI 0, oI 0, oI 0, oI 0, oI 0, oI 0, oI 0, oI 0]
def q360 : Value := (.string ⟨#[101]⟩)
def q361 : Value := (.string ⟨#[97]⟩)
def q362 : Value := (.string ⟨#[99]⟩)
def q14 : Nat × AObj := row 22 0 [some q361, oI 400, oI 405, oI 700, oI 700, oI 250, oI 252, some (.string ⟨#[98]⟩), oI 404, oI 408, oI 701, oI 701, oI 251, oI 251, some q362, oI 398, oI 402, oI 700, oI 701, oI 249, oI 250, some (.string ⟨#[100]⟩), oI 409, oI 412, oI 700, oI 700, oI 255, oI 255, some q360, oI 402, oI 402, oI 702, oI 702, oI 252, oI 254, some (.string ⟨#[102]⟩), oI 405, oI 406, oI 701, oI 702, oI 253, oI 253, some (.string ⟨#[103]⟩), oI 450, oI 450, oI 700, oI 700, oI 250, oI 250]
def q15 : Nat × AObj := row 6269 0 [some q330, some q336, some q337, some q341, some q331, some q332]
def q384 := vP 6375 0
def q385 := vP 6377 0
def q386 : Fn := (.func 132)
def q338 : Value := (.func q386 #[] #[q384, (vP 6649 0), q385])
def q369 : Value := (.tuple #[])
def q374 := vP 6378 0
def q16 : T Value := (mkT (en 0 [q377, q384, (vP 6376 0), q385, q374, (vP 6649 0), (vI 91), vF, (vI 90), q338, q369, (vI 91), q369]))
def q17 : Nat × AObj := row 3947 0 [some q329, some q340]
def q18 : T Value := (mkT (en 0 [q377, q384, (vP 6376 0), q385, q374]))
def q19 : Nat × AObj := row 27 0 [oI 10, oI 30, oI 32, oI 0, oI 0, oI 20, oI 55, oI 60, oI 0, oI 0, oI 30, oI 96, oI 99, oI 1, oI 1]
def q20 : Nat × AObj := row 2825 0 [some vF, some vF, some vF, some vF, some vF, some vF, some vF, some vF, some vF]
def q21 : Nat × AObj := row 4149 0 [some vF, some vF, some vF, some vT, some vF, some vF, some vF, some vF, some vF]
def q22 : Nat × AObj := row 4574 0 [some vF, some vF, some vF, some vT, some vF, some vF, some vF, some vF, some vF]
def q23 : AI := (cd 14 [1, 1, 1, 1, 1, 1, 1, 1, 1, 1, 1, 1, 1, 1, 1, 1, 1, 1, 1, 0, 1, 0, 1])
def q24 : Nat × AObj := row 7257 0 [oI 0, oI 3, oI 0, oI 0, oI 2, oI 3, oI 0, oI 0, oI 2, oI 3, oI 2, oI 0]
def q25 : Value := (.func (.func 98) #[q376] #[])
def q26 : Value := (.func (.func 96) #[q376] #[])
def q27 : Value := (.func (.func 97) #[q376] #[])
def q28 : Value := (.func (.func 126) #[q377] #[])
def q29 : Value := (.func (.func 127) #[q377] #[])
def q30 : Value := (.func (.func 128) #[q377] #[])
def q31 : Nat × AObj := row 6381 0 [some (.func q386 #[] #[q384, (vP 6379 0), q385])]
def q32 : Nat × AObj := row 6384 0 [some (.func q386 #[] #[q384, (vP 6382 0), q385])]
def q33 : Nat × AObj := row 6387 0 [some (.func q386 #[] #[q384, (vP 6385 0), q385])]
def q34 : Nat × AObj := row 6390 0 [some (.func q386 #[] #[q384, (vP 6388 0), q385])]
def q35 : Nat × AObj := row 6393 0 [some (.func q386 #[] #[q384, (vP 6391 0), q385])]
def q36 : Nat × AObj := row 6396 0 [some (.func q386 #[] #[q384, (vP 6394 0), q385])]
def q37 : Nat × AObj := row 6399 0 [some (.func q386 #[] #[q384, (vP 6397 0), q385])]
def q38 : Nat × AObj := row 6402 0 [some (.func q386 #[] #[q384, (vP 6400 0), q385])]
def q39 : Nat × AObj := row 6405 0 [some (.func q386 #[] #[q384, (vP 6403 0), q385])]
def q40 : Nat × AObj := row 6408 0 [some (.func q386 #[] #[q384, (vP 6406 0), q385])]
def q41 : Nat × AObj := row 6411 0 [some (.func q386 #[] #[q384, (vP 6409 0), q385])]
def q42 : Nat × AObj := row 6414 0 [some (.func q386 #[] #[q384, (vP 6412 0), q385])]
def q43 : Nat × AObj := row 6417 0 [some (.func q386 #[] #[q384, (vP 6415 0), q385])]
def q44 : Nat × AObj := row 6420 0 [some (.func q386 #[] #[q384, (vP 6418 0), q385])]
def q45 : Nat × AObj := row 6423 0 [some (.func q386 #[] #[q384, (vP 6421 0), q385])]
def q46 : Nat × AObj := row 6426 0 [some (.func q386 #[] #[q384, (vP 6424 0), q385])]
def q47 : Nat × AObj := row 6429 0 [some (.func q386 #[] #[q384, (vP 6427 0), q385])]
def q48 : Nat × AObj := row 6432 0 [some (.func q386 #[] #[q384, (vP 6430 0), q385])]
def q49 : Nat × AObj := row 6435 0 [some (.func q386 #[] #[q384, (vP 6433 0), q385])]
def q50 : Nat × AObj := row 6438 0 [some (.func q386 #[] #[q384, (vP 6436 0), q385])]
def q51 : Nat × AObj := row 6441 0 [some (.func q386 #[] #[q384, (vP 6439 0), q385])]
def q52 : Nat × AObj := row 6444 0 [some (.func q386 #[] #[q384, (vP 6442 0), q385])]
def q333 : Value := (.func q386 #[] #[q384, (vP 6445 0), q385])
def q53 : Nat × AObj := row 6447 0 [some q333]
def q54 : Nat × AObj := row 6450 0 [some (.func q386 #[] #[q384, (vP 6448 0), q385])]
def q55 : Nat × AObj := row 6453 0 [some (.func q386 #[] #[q384, (vP 6451 0), q385])]
def q56 : Nat × AObj := row 6456 0 [some (.func q386 #[] #[q384, (vP 6454 0), q385])]
def q57 : Nat × AObj := row 6459 0 [some (.func q386 #[] #[q384, (vP 6457 0), q385])]
def q58 : Nat × AObj := row 6462 0 [some (.func q386 #[] #[q384, (vP 6460 0), q385])]
def q59 : Nat × AObj := row 6465 0 [some (.func q386 #[] #[q384, (vP 6463 0), q385])]
def q60 : Nat × AObj := row 6468 0 [some (.func q386 #[] #[q384, (vP 6466 0), q385])]
def q61 : Nat × AObj := row 6471 0 [some (.func q386 #[] #[q384, (vP 6469 0), q385])]
def q62 : Nat × AObj := row 6474 0 [some (.func q386 #[] #[q384, (vP 6472 0), q385])]
def q63 : Nat × AObj := row 6477 0 [some (.func q386 #[] #[q384, (vP 6475 0), q385])]
def q64 : Nat × AObj := row 6480 0 [some (.func q386 #[] #[q384, (vP 6478 0), q385])]
def q65 : Nat × AObj := row 6483 0 [some (.func q386 #[] #[q384, (vP 6481 0), q385])]
def q66 : Nat × AObj := row 6486 0 [some (.func q386 #[] #[q384, (vP 6484 0), q385])]
def q67 : Nat × AObj := row 6489 0 [some (.func q386 #[] #[q384, (vP 6487 0), q385])]
def q68 : Nat × AObj := row 6492 0 [some (.func q386 #[] #[q384, (vP 6490 0), q385])]
def q69 : Nat × AObj := row 6495 0 [some (.func q386 #[] #[q384, (vP 6493 0), q385])]
def q70 : Nat × AObj := row 6498 0 [some (.func q386 #[] #[q384, (vP 6496 0), q385])]
def q71 : Nat × AObj := row 6501 0 [some (.func q386 #[] #[q384, (vP 6499 0), q385])]
def q72 : Nat × AObj := row 6504 0 [some (.func q386 #[] #[q384, (vP 6502 0), q385])]
def q73 : Nat × AObj := row 6507 0 [some (.func q386 #[] #[q384, (vP 6505 0), q385])]
def q74 : Nat × AObj := row 6510 0 [some (.func q386 #[] #[q384, (vP 6508 0), q385])]
def q75 : Nat × AObj := row 6513 0 [some (.func q386 #[] #[q384, (vP 6511 0), q385])]
def q334 : Value := (.func q386 #[] #[q384, (vP 6514 0), q385])
def q76 : Nat × AObj := row 6516 0 [some q334]
def q77 : Nat × AObj := row 6519 0 [some (.func q386 #[] #[q384, (vP 6517 0), q385])]
def q78 : Nat × AObj := row 6522 0 [some (.func q386 #[] #[q384, (vP 6520 0), q385])]
def q79 : Nat × AObj := row 6525 0 [some (.func q386 #[] #[q384, (vP 6523 0), q385])]
def q80 : Nat × AObj := row 6528 0 [some (.func q386 #[] #[q384, (vP 6526 0), q385])]
def q81 : Nat × AObj := row 6531 0 [some (.func q386 #[] #[q384, (vP 6529 0), q385])]
def q82 : Nat × AObj := row 6534 0 [some (.func q386 #[] #[q384, (vP 6532 0), q385])]
def q83 : Nat × AObj := row 6537 0 [some (.func q386 #[] #[q384, (vP 6535 0), q385])]
def q84 : Nat × AObj := row 6540 0 [some (.func q386 #[] #[q384, (vP 6538 0), q385])]
def q85 : Nat × AObj := row 6543 0 [some (.func q386 #[] #[q384, (vP 6541 0), q385])]
def q86 : Nat × AObj := row 6546 0 [some (.func q386 #[] #[q384, (vP 6544 0), q385])]
def q87 : Nat × AObj := row 6549 0 [some (.func q386 #[] #[q384, (vP 6547 0), q385])]
def q88 : Nat × AObj := row 6552 0 [some (.func q386 #[] #[q384, (vP 6550 0), q385])]
def q89 : Nat × AObj := row 6555 0 [some (.func q386 #[] #[q384, (vP 6553 0), q385])]
def q90 : Nat × AObj := row 6558 0 [some (.func q386 #[] #[q384, (vP 6556 0), q385])]
def q91 : Nat × AObj := row 6561 0 [some (.func q386 #[] #[q384, (vP 6559 0), q385])]
def q92 : Nat × AObj := row 6564 0 [some (.func q386 #[] #[q384, (vP 6562 0), q385])]
def q93 : Nat × AObj := row 6567 0 [some (.func q386 #[] #[q384, (vP 6565 0), q385])]
def q94 : Nat × AObj := row 6570 0 [some (.func q386 #[] #[q384, (vP 6568 0), q385])]
def q95 : Nat × AObj := row 6573 0 [some (.func q386 #[] #[q384, (vP 6571 0), q385])]
def q96 : Nat × AObj := row 6576 0 [some (.func q386 #[] #[q384, (vP 6574 0), q385])]
def q97 : Nat × AObj := row 6579 0 [some (.func q386 #[] #[q384, (vP 6577 0), q385])]
def q98 : Nat × AObj := row 6582 0 [some (.func q386 #[] #[q384, (vP 6580 0), q385])]
def q335 : Value := (.func q386 #[] #[q384, (vP 6583 0), q385])
def q99 : Nat × AObj := row 6585 0 [some q335]
def q100 : Nat × AObj := row 6588 0 [some (.func q386 #[] #[q384, (vP 6586 0), q385])]
def q101 : Nat × AObj := row 6591 0 [some (.func q386 #[] #[q384, (vP 6589 0), q385])]
def q102 : Nat × AObj := row 6594 0 [some (.func q386 #[] #[q384, (vP 6592 0), q385])]
def q103 : Nat × AObj := row 6597 0 [some (.func q386 #[] #[q384, (vP 6595 0), q385])]
def q104 : Nat × AObj := row 6600 0 [some (.func q386 #[] #[q384, (vP 6598 0), q385])]
def q105 : Nat × AObj := row 6603 0 [some (.func q386 #[] #[q384, (vP 6601 0), q385])]
def q106 : Nat × AObj := row 6606 0 [some (.func q386 #[] #[q384, (vP 6604 0), q385])]
def q107 : Nat × AObj := row 6609 0 [some (.func q386 #[] #[q384, (vP 6607 0), q385])]
def q108 : Nat × AObj := row 6612 0 [some (.func q386 #[] #[q384, (vP 6610 0), q385])]
def q109 : Nat × AObj := row 6615 0 [some (.func q386 #[] #[q384, (vP 6613 0), q385])]
def q110 : Nat × AObj := row 6618 0 [some (.func q386 #[] #[q384, (vP 6616 0), q385])]
def q111 : Nat × AObj := row 6621 0 [some (.func q386 #[] #[q384, (vP 6619 0), q385])]
def q112 : Nat × AObj := row 6624 0 [some (.func q386 #[] #[q384, (vP 6622 0), q385])]
def q113 : Nat × AObj := row 6627 0 [some (.func q386 #[] #[q384, (vP 6625 0), q385])]
def q114 : Nat × AObj := row 6630 0 [some (.func q386 #[] #[q384, (vP 6628 0), q385])]
def q115 : Nat × AObj := row 6633 0 [some (.func q386 #[] #[q384, (vP 6631 0), q385])]
def q116 : Nat × AObj := row 6636 0 [some (.func q386 #[] #[q384, (vP 6634 0), q385])]
def q117 : Nat × AObj := row 6639 0 [some (.func q386 #[] #[q384, (vP 6637 0), q385])]
def q118 : Nat × AObj := row 6642 0 [some (.func q386 #[] #[q384, (vP 6640 0), q385])]
def q119 : Nat × AObj := row 6645 0 [some (.func q386 #[] #[q384, (vP 6643 0), q385])]
def q120 : Nat × AObj := row 6648 0 [some (.func q386 #[] #[q384, (vP 6646 0), q385])]
def q121 : Nat × AObj := row 6651 0 [some q338]
def q370 := vP 2824 0
def q122 : Value := (.func (.func 115) #[] #[q370, (vP 3172 0), (vP 3171 0), (vP 3173 0)])
def q123 : Value := (.func (.func 140) #[] #[q371, (vP 4583 0), q372, (vP 4584 0)])
def q373 := vP 4573 0
def q124 : Value := (.func (.func 115) #[] #[q373, (vP 4921 0), (vP 4920 0), (vP 4922 0)])
def q125 : AI := (cd 58 [1, 1, 0, 1, 0, 0, 1, 1, 0, 0, 1, 1, 0, 0, 1, 1, 1])
def q354 : Value := (.func (.func 109) #[] #[])
def q355 : Value := (.func (.func 110) #[] #[])
def q126 : Value := (.agg #[q354, q355])
def q352 : Value := (.func (.func 107) #[] #[])
def q353 : Value := (.func (.func 108) #[] #[])
def q127 : Value := (.agg #[q352, q353])
def q128 : AI := (cd 14 [1, 1, 1, 1, 1, 1, 1, 1, 1, 1, 1, 1, 1, 1, 1])
def q375 : Fn := (.func 125)
def q129 : Value := (.func q375 #[] #[(vP 1382 0), (vP 1383 0), (vP 1384 0)])
def q130 : Value := (.func q375 #[] #[(vP 1394 0), (vP 1395 0), (vP 1396 0)])
def q131 : Value := (.func q375 #[] #[(vP 1388 0), (vP 1389 0), (vP 1390 0)])
def q132 : Value := (.func q375 #[] #[(vP 2063 0), (vP 2064 0), (vP 2065 0)])
def q133 : Value := (.func q375 #[] #[(vP 2075 0), (vP 2076 0), (vP 2077 0)])
def q134 : Value := (.func q375 #[] #[(vP 2069 0), (vP 2070 0), (vP 2071 0)])
def q135 : Value := (.func q387 #[] #[(vP 5990 0), (vP 5991 0), (vP 5992 0)])
def q136 : Value := (.func q387 #[] #[(vP 5968 0), (vP 5969 0), (vP 5970 0)])
def q137 : Value := (.func q387 #[] #[(vP 5971 0), (vP 5972 0), (vP 5973 0)])
def q138 : Value := (.func q387 #[] #[(vP 5974 0), (vP 5975 0), (vP 5976 0)])
def q139 : Value := (.func q387 #[] #[(vP 5981 0), (vP 5982 0), (vP 5983 0)])
def q140 : Value := (.func q387 #[] #[(vP 5984 0), (vP 5985 0), (vP 5986 0)])
def q141 : Value := (.func q387 #[] #[(vP 5987 0), (vP 5988 0), (vP 5989 0)])
def q142 : AI := (rg 14 [1, 1, 1, 1, 1, 1, 1, 1, 1, 1, 1, 1, 1, 1, 0] 1)
def q143 : Value := (.func q375 #[] #[(vP 705 0), (vP 706 0), (vP 707 0)])
def q144 : Value := (.tuple #[q345, vF])
def q346 : Value := (.agg #[vT, vT, vF, vT, vT, vF, vF, vF, vF])
def q145 : Value := (.tuple #[q346, vT])
def q347 : Value := (.agg #[vT, vF, vF, vF, vT, vT, vF, vF, vF])
def q146 : Value := (.tuple #[q347, vT])
def q349 : Value := (.agg #[vT, vF, vF, vT, vT, vT, vF, vF, vF])
def q147 : Value := (.tuple #[q349, vT])
def q148 : Value := (.agg #[q392, q393, q391, q392, (vS 6659 0 4 4)])
def q149 : Code := (ca 58 [1, 1, 0, 1, 0, 0, 1, 1, 0, 0, 1, 1, 0, 0])
def q150 : AI := (cd 115 [1, 1, 0, 1, 0, 1, 0, 0, 1, 1, 1])
def q359 : Value := (.agg #[(vI 38), (vI 48)])
def q151 : Value := (.tuple #[(vI 14), q359, q388])
def q152 : AI := (cd 98 [1, 0, 1, 0, 0, 1, 1, 0, 0, 1, 1])
def q153 : AI := (cd 55 [1, 0, 1, 0, 0, 1, 1, 0, 0, 1, 1])
def q154 : AI := (rg 93 [1, 1, 1, 0, 1, 0, 0, 1, 1, 0, 0, 1] 1)
def q155 : AI := (cd 140 [1, 1, 0, 1, 0, 0, 1, 0, 0, 1])
def q156 : AI := (rg 101 [1, 1, 0, 1, 0, 0, 1, 1, 0, 0, 1] 5)
def q157 : AI := (cd 93 [1, 1, 1, 0, 1, 0, 0, 1, 1, 1])
def q158 : Value := (.agg #[(vI 20), (vI 70), (vI 70), q388, q388])
def q159 : AI := (rg 98 [1, 0, 1, 0, 0, 1, 1, 0, 0, 1, 0] 2)
def q160 : AI := (rg 55 [1, 0, 1, 0, 0, 1, 1, 0, 0, 1, 0] 1)
def q161 : Value := (.func (.func 99) #[] #[(vP 1299 0), (vP 1298 0)])
def q162 : Value := (.func (.func 99) #[] #[(vP 1931 0), (vP 1930 0)])
def q163 : Nat × AObj := row 6654 0 [oI 2, oI 4, oI 1, oI 2, oS 6659 0 4 4]
def q164 : AI := (cd 101 [1, 1, 0, 1, 0, 0, 1, 1, 1])
def q165 : Nat × AObj := row 2199 0 [oI 10, oI 2, oI 5, oI 3, oS 22 0 7 7]
def q166 : Nat × AObj := row 2200 0 [oI 10, oI 2, oI 5, oI 3, oS 22 0 7 7]
def q167 : Nat × AObj := row 3943 0 [oI 10, oI 2, oI 5, oI 3, oS 22 0 7 7]
def q168 : Nat × AObj := row 3944 0 [oI 10, oI 2, oI 5, oI 3, oS 22 0 7 7]
def q169 : Nat × AObj := row 3945 0 [oI 10, oI 2, oI 5, oI 3, oS 22 0 7 7]
def q170 : Value := (.func (.func 99) #[] #[(vP 667 0), (vP 666 0)])
def q171 : AI := (cd 58 [1, 1, 0, 1, 0, 0, 1, 1, 1])
def q172 : Nat × AObj := row 6258 0 [oI 2, oI 4, oI 1, oI 2, oS 27 0 3 3]
def q173 : Nat × AObj := row 6262 0 [oI 2, oI 4, oI 1, oI 2, oS 27 0 3 3]
def q174 : Nat × AObj := row 6375 0 [oI 2, oI 4, oI 1, oI 2, oS 27 0 3 3]
def q175 : Nat × AObj := row 28 0 [oI 10, oI 2, oI 5, oI 3, oS 22 0 7 7]
def q176 : Nat × AObj := row 29 0 [oI 2, oI 4, oI 1, oI 2, oS 27 0 3 3]
def q177 : AI := (cd 140 [1, 1, 0, 1, 0, 0, 1, 1])
def q178 : AI := (cd 98 [1, 0, 1, 0, 0, 1, 1, 1])
def q179 : AI := (cd 55 [1, 0, 1, 0, 0, 1, 1, 1])
def q180 : AI := (cd 14 [1, 1, 1, 1, 1, 1, 1, 1])
def q181 : Value := (.agg #[vT, vF, vF, vF, vF, vF, vF, vF, vF])
def q182 : Value := (.agg #[vT, vF, vF, vT, vF, vF, vF, vF, vF])
def q183 : AI := (cd 14 [1, 1, 1, 1, 1, 1, 1])
def q184 : AI := (cd 28 [1, 1, 0, 1, 1, 0, 1])
def q185 : Nat × AObj := row 3199 1 [oS 2843 0 3 3, oS 3058 0 3 3]
def q186 : AI := (rg 14 [1, 1, 1, 1, 1, 1, 1, 0] 1)
def q187 : AI := (cd 52 [1, 1, 1, 1, 1, 1])
def q188 : Value := (.func (.func 160) #[] #[(vP 1377 0)])
def q189 : Value := (.func (.func 160) #[] #[(vP 2056 0)])
def q190 : AI := (rg 14 [1, 1, 1, 1, 1, 1, 0] 1)
def q191 : Code := (ca 115 [1, 1, 0, 1, 0, 1, 0, 0])
def q192 : Value := (.func (.func 160) #[] #[(vP 702 0)])
def q193 : AI := (rg 52 [1, 1, 1, 1, 1, 0] 1)
def q365 := vS 6807 0 2 2
def q194 : Value := (.tuple #[q365, q388])
def q366 := vS 6950 0 3 3
def q195 : Value := (.tuple #[q366, q388])
def q196 : Code := (ca 93 [1, 1, 1, 0, 1, 0, 0])
def q197 : AI := (cd 25 [1, 1, 1, 1])
def q198 : AI := (cd 93 [1, 1, 1, 1])
def q199 : Code := (ca 140 [1, 1, 0, 1, 0, 0])
def q200 : AI := (cd 115 [1, 1, 1])
def q201 : AI := (cd 140 [1, 1, 1])
def q202 : AI := (cd 93 [1, 1, 1])
def q203 : Nat × AObj := row 1927 0 [oI 0, oI 2, oI 3]
def q204 : Nat × AObj := row 2843 1 [oI 0, oI 1, oI 2]
def q205 : Nat × AObj := row 3058 1 [oI 3, oI 4, oI 5]
def q206 : Value := (.func (.yield 4582) #[] #[])
def q207 : Code := (ca 98 [1, 0, 1, 0, 0])
def q208 : Code := (ca 55 [1, 0, 1, 0, 0])
def q209 : Value := (.func (.func 105) #[] #[])
def q210 : Value := (.func (.func 106) #[] #[])
def q211 : AI := (cd 98 [1, 1])
def q212 : AI := (cd 55 [1, 1])
def q213 : AI := (cd 56 [1, 1])
def q214 : Nat × AObj := row 30 0 [oI 0, oI 1, oI 2]
def q215 : Nat × AObj := row 5531 0 [oI 93, oI 102]
def q216 : Nat × AObj := row 5674 0 [oI 93, oI 100]
def q217 : Nat × AObj := row 5817 0 [oI 73, oI 80]
def q218 : Nat × AObj := row 1295 0 [oI 0, oI 6]
def q219 : Nat × AObj := row 6261 0 [oI 0, oI 0]
def q220 : Nat × AObj := row 663 0 [oI 0, oI 3]
def q221 : Nat × AObj := row 6380 0 [oP 6378 0]
def q222 : Nat × AObj := row 6383 0 [oP 6378 0]
def q223 : Nat × AObj := row 6386 0 [oP 6378 0]
def q224 : Nat × AObj := row 6389 0 [oP 6378 0]
def q225 : Nat × AObj := row 6392 0 [oP 6378 0]
def q226 : Nat × AObj := row 6395 0 [oP 6378 0]
def q227 : Nat × AObj := row 6398 0 [oP 6378 0]
def q228 : Nat × AObj := row 6401 0 [oP 6378 0]
def q229 : Nat × AObj := row 6404 0 [oP 6378 0]
def q230 : Nat × AObj := row 6407 0 [oP 6378 0]
def q231 : Nat × AObj := row 6410 0 [oP 6378 0]
def q232 : Nat × AObj := row 6413 0 [oP 6378 0]
def q233 : Nat × AObj := row 6416 0 [oP 6378 0]
def q234 : Nat × AObj := row 6419 0 [oP 6378 0]
def q235 : Nat × AObj := row 6422 0 [oP 6378 0]
def q236 : Nat × AObj := row 6425 0 [oP 6378 0]
def q237 : Nat × AObj := row 6428 0 [oP 6378 0]
def q238 : Nat × AObj := row 6431 0 [oP 6378 0]
def q239 : Nat × AObj := row 6434 0 [oP 6378 0]
def q240 : Nat × AObj := row 6437 0 [oP 6378 0]
def q241 : Nat × AObj := row 6440 0 [oP 6378 0]
def q242 : Nat × AObj := row 6443 0 [oP 6378 0]
def q243 : Nat × AObj := row 6446 0 [oP 6378 0]
def q244 : Nat × AObj := row 6449 0 [oP 6378 0]
def q245 : Nat × AObj := row 6452 0 [oP 6378 0]
def q246 : Nat × AObj := row 6455 0 [oP 6378 0]
def q247 : Nat × AObj := row 6458 0 [oP 6378 0]
def q248 : Nat × AObj := row 6461 0 [oP 6378 0]
def q249 : Nat × AObj := row 6464 0 [oP 6378 0]
def q250 : Nat × AObj := row 6467 0 [oP 6378 0]
def q251 : Nat × AObj := row 6470 0 [oP 6378 0]
def q252 : Nat × AObj := row 6473 0 [oP 6378 0]
def q253 : Nat × AObj := row 6476 0 [oP 6378 0]
def q254 : Nat × AObj := row 6479 0 [oP 6378 0]
def q255 : Nat × AObj := row 6482 0 [oP 6378 0]
def q256 : Nat × AObj := row 6485 0 [oP 6378 0]
def q257 : Nat × AObj := row 6488 0 [oP 6378 0]
def q258 : Nat × AObj := row 6491 0 [oP 6378 0]
def q259 : Nat × AObj := row 6494 0 [oP 6378 0]
def q260 : Nat × AObj := row 6497 0 [oP 6378 0]
def q261 : Nat × AObj := row 6500 0 [oP 6378 0]
def q262 : Nat × AObj := row 6503 0 [oP 6378 0]
def q263 : Nat × AObj := row 6506 0 [oP 6378 0]
def q264 : Nat × AObj := row 6509 0 [oP 6378 0]
def q265 : Nat × AObj := row 6512 0 [oP 6378 0]
def q266 : Nat × AObj := row 6515 0 [oP 6378 0]
def q267 : Nat × AObj := row 6378 0 [oU, oU]
def q268 : Nat × AObj := row 6259 0 [oI 10]
def q269 : Nat × AObj := row 6260 0 [oI 30]
def q270 : Nat × AObj := row 6263 0 [oI 10]
def q271 : Nat × AObj := row 6265 0 [oI 90]
def q272 : Nat × AObj := row 6266 0 [oI 30]
def q273 : Nat × AObj := row 6268 0 [oI 90]
def q274 : Nat × AObj := row 6409 0 [oI 10]
def q275 : Nat × AObj := row 6412 0 [oI 11]
def q276 : Nat × AObj := row 6415 0 [oI 12]
def q277 : Nat × AObj := row 6418 0 [oI 13]
def q278 : Nat × AObj := row 6421 0 [oI 14]
def q279 : Nat × AObj := row 6424 0 [oI 15]
def q280 : Nat × AObj := row 6427 0 [oI 16]
def q281 : Nat × AObj := row 6430 0 [oI 17]
def q282 : Nat × AObj := row 6433 0 [oI 18]
def q283 : Nat × AObj := row 6436 0 [oI 19]
def q284 : Nat × AObj := row 6439 0 [oI 20]
def q285 : Nat × AObj := row 6442 0 [oI 21]
def q286 : Nat × AObj := row 6445 0 [oI 22]
def q287 : Nat × AObj := row 6448 0 [oI 23]
def q288 : Nat × AObj := row 6451 0 [oI 24]
def q289 : Nat × AObj := row 6454 0 [oI 25]
def q290 : Nat × AObj := row 6457 0 [oI 26]
def q291 : Nat × AObj := row 6460 0 [oI 27]
def q292 : Nat × AObj := row 6463 0 [oI 28]
def q293 : Nat × AObj := row 6466 0 [oI 29]
def q294 : Nat × AObj := row 6469 0 [oI 30]
def q295 : Nat × AObj := row 6472 0 [oI 31]
def q296 : Nat × AObj := row 6475 0 [oI 32]
def q297 : Nat × AObj := row 6478 0 [oI 33]
def q298 : Nat × AObj := row 6481 0 [oI 34]
def q299 : Nat × AObj := row 6484 0 [oI 35]
def q300 : Nat × AObj := row 6487 0 [oI 36]
def q301 : Nat × AObj := row 6490 0 [oI 37]
def q302 : Nat × AObj := row 6493 0 [oI 38]
def q303 : Nat × AObj := row 6496 0 [oI 39]
def q304 : Nat × AObj := row 6499 0 [oI 40]
def q305 : Nat × AObj := row 6502 0 [oI 41]
def q306 : Nat × AObj := row 6505 0 [oI 42]
def q307 : Nat × AObj := row 6508 0 [oI 43]
def q308 : Nat × AObj := row 6511 0 [oI 44]
def q309 : Nat × AObj := row 6514 0 [oI 45]
def q310 : Nat × AObj := row 3942 1 [oI 6]
def q311 : Nat × AObj := row 6264 0 [oI 0]
def q312 : Nat × AObj := row 6267 0 [oI 0]
def q313 : Nat × AObj := row 6379 0 [oI 0]
def q314 : Nat × AObj := row 6382 0 [oI 1]
def q315 : Nat × AObj := row 6385 0 [oI 2]
def q316 : Nat × AObj := row 6388 0 [oI 3]
def q317 : Nat × AObj := row 6391 0 [oI 4]
def q318 : Nat × AObj := row 6394 0 [oI 5]
def q319 : Nat × AObj := row 6397 0 [oI 6]
def q320 : Nat × AObj := row 6400 0 [oI 7]
def q321 : Nat × AObj := row 6403 0 [oI 8]
def q322 : Nat × AObj := row 6406 0 [oI 9]
def q323 := vS 1398 0 3 3
def q324 := vS 2079 0 3 3
def q325 := vS 2956 0 3 3
def q326 := vP 5980 0
def q327 := vI 6
end Go.Proofs.Tryz
end
end
