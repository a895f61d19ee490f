package tests

import (
	"fmt"
	"math/big"
	"strings"
	"testing"

	"loop.example/g01133/impl"
)

func TestPromise13Example(t *testing.T) {
	g, weights := gram(example), []int64{1, -2, 0, 0}
	is(t, "InversionCount", "2 0", list(impl.InversionCount(g, 100))...)
	is(t, "PlaceSum of a", "5 0", list(impl.PlaceSum(g, "a", 100))...)
	is(t, "PlaceSum of b", "5 0", list(impl.PlaceSum(g, "b", 100))...)
	is(t, "PlaceSum of c", "0 0", list(impl.PlaceSum(g, "c", 100))...)
	is(t, "ClimbOf", "{-1 -1 1} 0", list(impl.ClimbOf(g, weights))...)
	for n, want := range []string{"0 0", "1 0", "-1 0", "0 0", "1 0", "-1 0"} {
		is(t, fmt.Sprint("ClimbAt ", n), want, list(impl.ClimbAt(g, weights, int64(n)))...)
	}
	for bound, want := range map[int64]string{2: "0 0", 1: "0 0", 0: "2 0", -1: "0 6", -2: "0 6"} {
		is(t, fmt.Sprint("FirstBelow ", bound), want, list(impl.FirstBelow(g, weights, bound))...)
	}
	is(t, "IsBalanced", "false 0", list(impl.IsBalanced(g, "a", "b"))...)
	is(t, "IsBalanced", "true 0", list(impl.IsBalanced(g, "c", "d"))...)
	is(t, "PrintOf", "49 0", list(impl.PrintOf(g, 2, 100))...)
	is(t, "PrintOfPart", "8 0", list(impl.PrintOfPart(g, 1, 4, 2, 100))...)
}

// someBases returns bases for a modulus, those at both ends too.
func someBases(modulus int64) []int64 {
	return []int64{0, modulus - 1, 1 % modulus, 2 % modulus, 10 % modulus, modulus / 2, 123456789 % modulus}
}

// sumsLikePlain holds inversions, sums of places and prints of a grammar against those of its short word.
func sumsLikePlain(t *testing.T, g impl.Grammar, w string, modulus int64) {
	t.Helper()
	name := fmt.Sprintf("%.60q, of %.80q, and %d", w, textOf(g), modulus)
	inversions, code := impl.InversionCount(g, modulus)
	counts(t, "InversionCount of "+name, inversions, code, inversionsBy(w)%modulus)
	for _, x := range each() {
		sum, code := impl.PlaceSum(g, x, modulus)
		counts(t, "PlaceSum of "+x+" in "+name, sum, code, placeSumBy(w, x)%modulus)
	}
	n := len(w)
	for _, base := range someBases(modulus) {
		name := fmt.Sprint(base, " and ", name)
		all, code := impl.PrintOf(g, base, modulus)
		counts(t, "PrintOf "+name, all, code, printBy(w, base, modulus))
		for _, i := range []int{0, 1, n / 3, n/2 + 1, n - 1, n} {
			for _, j := range []int{0, 1, n / 2, n - 1, n} {
				part, code := impl.PrintOfPart(g, int64(i), int64(j), base, modulus)
				if i < 0 || i > j || j > n {
					counts(t, fmt.Sprint("PrintOfPart from ", i, " to ", j, " of ", name), part, code, -impl.ErrRange)
				} else {
					counts(t, fmt.Sprint("PrintOfPart from ", i, " to ", j, " of ", name), part, code, printBy(w[i:j], base, modulus))
				}
			}
		}
	}
}

// climbsLikePlain holds the heights of a grammar against those behind the letters of its short word.
func climbsLikePlain(t *testing.T, g impl.Grammar, w string, weights []int64) {
	t.Helper()
	name := fmt.Sprintf("%v and %.60q, of %.80q", weights, w, textOf(g))
	heights := heightsBy(w, weights)
	low, high := int64(0), int64(0)
	for _, h := range heights {
		low, high = min(low, h), max(high, h)
	}
	total := heights[len(w)]
	is(t, "ClimbOf "+name, fmt.Sprint(impl.Climb{Total: total, Low: low, High: high}, " 0"), list(impl.ClimbOf(g, weights))...)
	for _, n := range sparse(len(w)) {
		h, code := impl.ClimbAt(g, weights, n)
		says(t, fmt.Sprint("ClimbAt ", n, " of ", name), h, code, heights[n])
	}
	for _, n := range []int64{least, -1, int64(len(w)) + 1, greatest} {
		failsWith(t, "ClimbAt outside of "+name, list(impl.ClimbAt(g, weights, n)), impl.ErrRange)
	}
	for _, bound := range []int64{least, -impl.MaxLength, low - 1, low, low + 1, low / 2, total - 1, total, total + 1, -1, 0, 1, high, high + 1, greatest} {
		want := int64(-impl.ErrNotFound)
		for n, h := range heights {
			if h < bound {
				want = int64(n)
				break
			}
		}
		n, code := impl.FirstBelow(g, weights, bound)
		counts(t, fmt.Sprint("FirstBelow ", bound, " of ", name), n, code, want)
	}
}

// balancedBy reports whether a short word is balanced for two letters: they can be left out as pairs.
func balancedBy(w, open, shut string) bool {
	for _, x := range each() {
		if x != open && x != shut {
			w = strings.ReplaceAll(w, x, "")
		}
	}
	for strings.Contains(w, open+shut) {
		w = strings.ReplaceAll(w, open+shut, "")
	}
	return w == ""
}

// balancesLikePlain checks for all pairs of letters whether a word is balanced.
func balancesLikePlain(t *testing.T, g impl.Grammar, w string) {
	t.Helper()
	for _, open := range each() {
		for _, shut := range each() {
			yes, code := impl.IsBalanced(g, open, shut)
			name := fmt.Sprintf("IsBalanced of %.60q for %s and %s", w, open, shut)
			if open == shut {
				failsWith(t, name, list(yes, code), impl.ErrRange)
			} else {
				saysWhether(t, name, yes, code, balancedBy(w, open, shut))
			}
		}
	}
}

func TestPromise13SmallGrammars(t *testing.T) {
	moduli, weights := someModuli(), someWeights()
	for k, g := range someGrammars() {
		w := wordOf(g)
		sumsLikePlain(t, g, w, moduli[k%len(moduli)])
		sumsLikePlain(t, g, w, moduli[(k*7+3)%len(moduli)])
		for l := range 3 {
			climbsLikePlain(t, g, w, weights[(k*3+l)%len(weights)])
		}
		balancesLikePlain(t, g, w)
	}
	for _, g := range []impl.Grammar{chain(400), mixedGrammar(400, 1900, 36), mixedGrammar(400, 1900, 8), mixedGrammar(120, 1900, 21), doubled(gram(example), 8)} {
		w := wordOf(g)
		sumsLikePlain(t, g, w, impl.MaxModulus)
		sumsLikePlain(t, g, w, 97)
		for _, list := range weights {
			climbsLikePlain(t, g, w, list)
		}
		balancesLikePlain(t, g, w)
	}
}

// TestPromise13Plain counts in different grammars of the same words.
func TestPromise13Plain(t *testing.T) {
	words := append(wordsUpTo("abcd", 4)[1:], wordsUpTo("ab", 7)[1:]...)
	words = append(words, "aabbab", "abab", "aaaabbbb", "aacbdb", "ccddcd", "abba", strings.Repeat("ab", 40), strings.Repeat("aabb", 20), strings.Repeat("dcba", 20), mixedWord("ab", 90, 5), mixedWord("abcd", 90, 6))
	moduli, weights := someModuli(), someWeights()
	for k, w := range words {
		ways := plainWays(w)
		for l, g := range ways {
			if len(w) > 4 || l == k%len(ways) {
				sumsLikePlain(t, g, w, moduli[(k+l)%len(moduli)])
				climbsLikePlain(t, g, w, weights[(k+l)%len(weights)])
				balancesLikePlain(t, g, w)
			}
		}
	}
}

// TestPromise13Empty counts nothing in the grammar without rules.
func TestPromise13Empty(t *testing.T) {
	for _, g := range []impl.Grammar{{}, {Rules: []impl.Rule{}}} {
		for _, modulus := range someModuli() {
			sumsLikePlain(t, g, "", modulus)
			is(t, "InversionCount of nothing", "0 0", list(impl.InversionCount(g, modulus))...)
			is(t, "PlaceSum of nothing", "0 0", list(impl.PlaceSum(g, "a", modulus))...)
			is(t, "PrintOf nothing", "0 0", list(impl.PrintOf(g, 0, modulus))...)
			is(t, "PrintOfPart of nothing", "0 0", list(impl.PrintOfPart(g, 0, 0, modulus-1, modulus))...)
			failsWith(t, "PrintOfPart behind nothing", list(impl.PrintOfPart(g, 0, 1, 0, modulus)), impl.ErrRange)
		}
		for _, weights := range someWeights() {
			climbsLikePlain(t, g, "", weights)
			is(t, "ClimbOf nothing", "{0 0 0} 0", list(impl.ClimbOf(g, weights))...)
			is(t, "FirstBelow a bound above nothing", "0 0", list(impl.FirstBelow(g, weights, 1))...)
			is(t, "FirstBelow nothing", "0 6", list(impl.FirstBelow(g, weights, 0))...)
		}
		is(t, "IsBalanced of nothing", "true 0", list(impl.IsBalanced(g, "a", "b"))...)
	}
}

// TestPromise13LongWords sums up in words of up to MaxLength letters that are put together in different ways.
func TestPromise13LongWords(t *testing.T) {
	moduli := someModuli()
	for k, w := range hugeWords() {
		inversions, sums, places := w.inversions(), map[string]*big.Int{}, w.somePlaces()
		for _, x := range each() {
			sums[x] = w.placeSum(x)
		}
		ways := grammarsOf(t, w)
		for l, modulus := range moduli {
			for i, g := range ways {
				name := fmt.Sprintf("%.90s and %d", w, modulus)
				is(t, "InversionCount of "+name, fmt.Sprint(restOf(inversions, modulus), " 0"), list(impl.InversionCount(g, modulus))...)
				x := each()[(k+l+i)%4]
				is(t, "PlaceSum of "+x+" in "+name, fmt.Sprint(restOf(sums[x], modulus), " 0"), list(impl.PlaceSum(g, x, modulus))...)
				for _, base := range someBases(modulus) {
					is(t, fmt.Sprint("PrintOf ", base, " and ", name), fmt.Sprint(w.print(base, modulus), " 0"), list(impl.PrintOf(g, base, modulus))...)
					from, to := places[(k+l)%len(places)], places[(k*3+l*5+i)%len(places)]
					from, to = min(from, to), max(from, to)
					want := w.start(to).rest(from).print(base, modulus)
					is(t, fmt.Sprint("PrintOfPart from ", from, " to ", to, " of ", base, " and ", name), fmt.Sprint(want, " 0"), list(impl.PrintOfPart(g, from, to, base, modulus))...)
				}
			}
		}
	}
}

// TestPromise13LongClimbs climbs words of up to MaxLength letters that are put together in different ways.
func TestPromise13LongClimbs(t *testing.T) {
	for k, w := range hugeWords() {
		ways := grammarsOf(t, w)
		for l, weights := range someWeights() {
			climb := w.climb(weights)
			for _, g := range []impl.Grammar{ways[(k+l)%len(ways)], ways[(k+l+1)%len(ways)]} {
				name := fmt.Sprintf("%v and %.90s", weights, w)
				is(t, "ClimbOf "+name, fmt.Sprint(climb, " 0"), list(impl.ClimbOf(g, weights))...)
				for _, n := range w.somePlaces() {
					h, code := impl.ClimbAt(g, weights, n)
					says(t, fmt.Sprint("ClimbAt ", n, " of ", name), h, code, w.start(n).climb(weights).Total)
				}
				for _, bound := range []int64{1, 0, -1, -2, climb.Low - 1, climb.Low, climb.Low + 1, climb.Low / 2, climb.Low / 3, climb.Total, climb.High, climb.High + 1} {
					n, code := impl.FirstBelow(g, weights, bound)
					counts(t, fmt.Sprint("FirstBelow ", bound, " of ", name), n, code, w.below(weights, bound))
				}
			}
		}
	}
}

// TestPromise13FirstBelow checks that the height is less than the bound there, and nowhere ahead of it.
func TestPromise13FirstBelow(t *testing.T) {
	for _, g := range manyGrammars() {
		length, _ := impl.LengthOf(g)
		for _, weights := range someWeights() {
			climb, _ := impl.ClimbOf(g, weights)
			for _, bound := range []int64{climb.Low + 1, climb.Low/2 + 1, climb.Low / 3, climb.Low / 7 * 3, -5, 0} {
				n, code := impl.FirstBelow(g, weights, bound)
				if climb.Low >= bound {
					failsWith(t, "FirstBelow a bound that is not passed", list(n, code), impl.ErrNotFound)
					continue
				}
				h, _ := impl.ClimbAt(g, weights, n)
				if code != impl.OK || n > length || h >= bound {
					t.Errorf("FirstBelow %d: got %d, with the height %d, and the code %d", bound, n, h, code)
				}
				if n == 0 || len(g.Rules) > 250 {
					continue
				}
				ahead, code := impl.ClimbOf(partOf(t, g, 0, n-1), weights)
				if ahead.Low < bound || code != impl.OK {
					t.Errorf("FirstBelow %d: got %d, but there is a lower height before", bound, n)
				}
			}
			for bound, want := range map[int64]string{least: "0 6", greatest: "0 0", climb.Low: "0 6", 1: "0 0", -9*impl.MaxLength - 1: "0 6"} {
				is(t, fmt.Sprint("FirstBelow ", bound), want, list(impl.FirstBelow(g, weights, bound))...)
			}
		}
	}
}

// TestPromise13Weights checks weights at both ends and just outside of them, and lists that have not four of them.
func TestPromise13Weights(t *testing.T) {
	const n = impl.MaxLength
	full := fullGrammar()
	is(t, "the greatest height", fmt.Sprint(impl.Climb{Total: 9 * n, High: 9 * n}, " 0"), list(impl.ClimbOf(full, []int64{9, 9, 9, 9}))...)
	is(t, "the least height", fmt.Sprint(impl.Climb{Total: -9 * n, Low: -9 * n}, " 0"), list(impl.ClimbOf(full, []int64{-9, -9, -9, -9}))...)
	is(t, "up and down", fmt.Sprint(impl.Climb{High: 9}, " 0"), list(impl.ClimbOf(full, []int64{9, -9, 0, 0}))...)
	is(t, "down and up", fmt.Sprint(impl.Climb{Low: -9}, " 0"), list(impl.ClimbOf(full, []int64{-9, 9, 0, 0}))...)
	is(t, "the last letter", fmt.Sprint(n, " 0"), list(impl.FirstBelow(full, []int64{-9, -9, 9, 9}, -9*n+1))...)
	is(t, "not below the least height", "0 6", list(impl.FirstBelow(full, []int64{-9, -9, 9, 9}, -9*n))...)
	is(t, "the first letter", "1 0", list(impl.FirstBelow(full, []int64{-9, 9, 0, 0}, -8))...)
	is(t, "a bound that is reached", "0 6", list(impl.FirstBelow(full, []int64{-9, 9, 0, 0}, -9))...)
	for _, weights := range wrongWeights() {
		for _, g := range []impl.Grammar{{}, gram(example), full} {
			for _, k := range []int64{least, -1, 0, 1, greatest} {
				failsWith(t, "ClimbOf wrong weights", list(impl.ClimbOf(g, weights)), impl.ErrRange)
				failsWith(t, "ClimbAt of wrong weights", list(impl.ClimbAt(g, weights, k)), impl.ErrRange)
				failsWith(t, "FirstBelow of wrong weights", list(impl.FirstBelow(g, weights, k)), impl.ErrRange)
			}
		}
	}
}

// wrongWeights returns lists that are no weights, for different reasons.
func wrongWeights() [][]int64 {
	wrong := [][]int64{nil, {}, {0}, {1, -2, 0}, {1, -2, 0, 0, 0}, make([]int64, 1000000)}
	for k := range 4 {
		for _, weight := range []int64{-10, 10, least, greatest, 1 << 32} {
			weights := []int64{9, -9, 0, 1}
			weights[k] = weight
			wrong = append(wrong, weights)
		}
	}
	return wrong
}

// TestPromise13Balanced checks long words that are balanced, and those that are not, for one letter alone.
func TestPromise13Balanced(t *testing.T) {
	const n = impl.MaxLength
	for _, c := range []struct {
		w    pieces
		want bool
	}{
		{pieces{{"ab", n / 2}}, true},
		{pieces{{"ba", n / 2}}, false},
		{pieces{{"a", n / 2}, {"b", n / 2}}, true},
		{pieces{{"a", n/2 - 1}, {"b", n/2 + 1}}, false},
		{pieces{{"a", n/2 + 1}, {"b", n/2 - 1}}, false},
		{pieces{{"b", n / 2}, {"a", n / 2}}, false},
		{pieces{{"c", n / 4}, {"acdb", n / 8}, {"d", n / 4}}, true},
		{pieces{{"a", n / 4}, {"b", n/4 + 1}, {"a", 1}, {"ab", n / 8}}, false},
		{pieces{{"a", n / 4}, {"bcab", n / 16}, {"b", n / 4}}, false},
		{pieces{{"a", n / 8}, {"bcab", n / 16}, {"b", n / 16}}, true},
		{pieces{{"d", n}}, true},
	} {
		for _, g := range grammarsOf(t, c.w) {
			yes, code := impl.IsBalanced(g, "a", "b")
			saysWhether(t, "IsBalanced of "+c.w.String(), yes, code, c.want)
		}
	}
	for _, g := range []impl.Grammar{{}, gram(example), fullGrammar()} {
		for _, x := range noLetters() {
			failsWith(t, "IsBalanced for no first letter", list(impl.IsBalanced(g, x, "a")), impl.ErrInvalid)
			failsWith(t, "IsBalanced for no second letter", list(impl.IsBalanced(g, "a", x)), impl.ErrInvalid)
			failsWith(t, "IsBalanced for no letters", list(impl.IsBalanced(g, x, x)), impl.ErrInvalid)
		}
	}
}

// TestPromise13Turned counts inversions of words and of their turned words together: each pair of different letters is one in one of both.
func TestPromise13Turned(t *testing.T) {
	for _, g := range append(manyGrammars(), someGrammars()...) {
		totals, _ := impl.LetterCounts(g)
		pairs := new(big.Int)
		for k, x := range totals {
			for _, y := range totals[:k] {
				pairs.Add(pairs, new(big.Int).Mul(big.NewInt(x), big.NewInt(y)))
			}
		}
		turned, _ := impl.TurnGrammar(g)
		for _, modulus := range []int64{1, 2, 97, impl.MaxModulus} {
			one, _ := impl.InversionCount(g, modulus)
			two, code := impl.InversionCount(turned, modulus)
			counts(t, "InversionCount of a turned word", (one+two)%modulus, code, restOf(pairs, modulus))
		}
	}
}

// TestPromise13Joins adds up inversions, places, heights and prints over joins, and over parts of long words.
func TestPromise13Joins(t *testing.T) {
	for _, g := range manyGrammars() {
		// Fewer rules, so that there are not too many when it is cut.
		g = rules(g.Rules[:min(250, len(g.Rules))]...)
		n, _ := impl.LengthOf(g)
		for _, i := range []int64{0, 1, n / 3, n / 2, n - 1, n} {
			one, two := partOf(t, g, 0, i), partOf(t, g, i, n)
			for _, modulus := range []int64{1, 2, 10, 999999937, impl.MaxModulus} {
				addsUp(t, g, one, two, i, modulus)
			}
			for _, weights := range someWeights() {
				left, _ := impl.ClimbOf(one, weights)
				right, _ := impl.ClimbOf(two, weights)
				at, code := impl.ClimbAt(g, weights, i)
				says(t, "ClimbAt the end of a part", at, code, left.Total)
				want := impl.Climb{Total: at + right.Total, Low: min(left.Low, at+right.Low), High: max(left.High, at+right.High)}
				is(t, "ClimbOf a join", fmt.Sprint(want, " 0"), list(impl.ClimbOf(g, weights))...)
			}
		}
	}
}

// addsUp checks what two parts of a word, the first one of which has i letters, add to each other.
func addsUp(t *testing.T, g, one, two impl.Grammar, i, modulus int64) {
	t.Helper()
	times := func(x, y int64) int64 { return (x % modulus) * (y % modulus) % modulus }
	ahead, _ := impl.LetterCounts(one)
	behind, _ := impl.LetterCounts(two)
	left, _ := impl.InversionCount(one, modulus)
	right, _ := impl.InversionCount(two, modulus)
	sum := left + right
	for l := range 4 {
		for k := range l {
			sum += times(ahead[l], behind[k])
		}
	}
	all, code := impl.InversionCount(g, modulus)
	counts(t, "InversionCount of a join", all, code, sum%modulus)
	for l, x := range each() {
		left, _ := impl.PlaceSum(one, x, modulus)
		right, _ := impl.PlaceSum(two, x, modulus)
		all, code := impl.PlaceSum(g, x, modulus)
		counts(t, "PlaceSum of a join", all, code, (left+right+times(i, behind[l]))%modulus)
	}
	n, _ := impl.LengthOf(g)
	for _, base := range someBases(modulus) {
		power := new(big.Int).Exp(big.NewInt(base), big.NewInt(i), big.NewInt(modulus)).Int64()
		left, _ := impl.PrintOf(one, base, modulus)
		right, _ := impl.PrintOf(two, base, modulus)
		all, code := impl.PrintOf(g, base, modulus)
		counts(t, "PrintOf a join", all, code, (left+times(power, right))%modulus)
		part, code := impl.PrintOfPart(g, 0, i, base, modulus)
		counts(t, "PrintOfPart of the first part", part, code, left)
		part, code = impl.PrintOfPart(g, i, n, base, modulus)
		counts(t, "PrintOfPart of the second part", part, code, right)
		part, code = impl.PrintOfPart(g, i, i, base, modulus)
		counts(t, "PrintOfPart of no letter", part, code, 0)
		part, code = impl.PrintOfPart(g, 0, n, base, modulus)
		counts(t, "PrintOfPart of all", part, code, all)
	}
}

// TestPromise13Bases checks bases and parts at both ends and just outside of them.
func TestPromise13Bases(t *testing.T) {
	const n = impl.MaxLength
	full := fullGrammar()
	for _, modulus := range someModuli() {
		for _, base := range []int64{least, -modulus, -1, modulus, modulus + 1, greatest} {
			for _, g := range []impl.Grammar{{}, gram(example), full} {
				failsWith(t, fmt.Sprint("PrintOf ", base, " and ", modulus), list(impl.PrintOf(g, base, modulus)), impl.ErrRange)
				failsWith(t, fmt.Sprint("PrintOfPart of ", base, " and ", modulus), list(impl.PrintOfPart(g, 0, 0, base, modulus)), impl.ErrRange)
			}
		}
		for _, part := range [][2]int64{{-1, 0}, {-1, n}, {1, 0}, {n, n - 1}, {0, n + 1}, {n + 1, n + 1}, {least, greatest}, {greatest, least}, {least, least}} {
			failsWith(t, fmt.Sprint("PrintOfPart of ", part), list(impl.PrintOfPart(full, part[0], part[1], 0, modulus)), impl.ErrRange)
		}
		for _, i := range []int64{0, 1, n / 2, n - 1} {
			is(t, "a letter alone", fmt.Sprint((i%2+1)%modulus, " 0"), list(impl.PrintOfPart(full, i, i+1, modulus-1, modulus))...)
			is(t, "no letter", "0 0", list(impl.PrintOfPart(full, i, i, modulus-1, modulus))...)
		}
		is(t, "no letter at the end", "0 0", list(impl.PrintOfPart(full, n, n, modulus-1, modulus))...)
		// The power of 0 with the exponent 0 is 1, so the first letter counts alone.
		is(t, "the base 0", fmt.Sprint(1%modulus, " 0"), list(impl.PrintOf(full, 0, modulus))...)
		is(t, "the base 0 behind the first letter", fmt.Sprint(2%modulus, " 0"), list(impl.PrintOfPart(full, 1, n, 0, modulus))...)
		is(t, "the base 1", fmt.Sprint(n/2*3%modulus, " 0"), list(impl.PrintOf(full, 1%modulus, modulus))...)
		is(t, "the base modulus less 1", fmt.Sprint((modulus-n/2%modulus)%modulus, " 0"), list(impl.PrintOf(full, modulus-1, modulus))...)
	}
}

// TestPromise13Moduli checks moduli at both ends and just outside of them.
func TestPromise13Moduli(t *testing.T) {
	const n = impl.MaxLength
	full := fullGrammar()
	for _, modulus := range []int64{least, -impl.MaxModulus, -1, 0, impl.MaxModulus + 1, 1 << 32, greatest} {
		for _, g := range []impl.Grammar{{}, gram(example), full} {
			failsWith(t, fmt.Sprint("InversionCount with ", modulus), list(impl.InversionCount(g, modulus)), impl.ErrRange)
			failsWith(t, fmt.Sprint("PlaceSum with ", modulus), list(impl.PlaceSum(g, "b", modulus)), impl.ErrRange)
			for _, base := range []int64{-1, 0, 1, modulus, modulus - 1} {
				failsWith(t, fmt.Sprint("PrintOf with ", modulus), list(impl.PrintOf(g, base, modulus)), impl.ErrRange)
				failsWith(t, fmt.Sprint("PrintOfPart with ", modulus), list(impl.PrintOfPart(g, 0, 0, base, modulus)), impl.ErrRange)
			}
		}
	}
	for _, modulus := range someModuli() {
		is(t, "inversions", fmt.Sprint(restOf(new(big.Int).Binomial(n/2, 2), modulus), " 0"), list(impl.InversionCount(full, modulus))...)
		evens := new(big.Int).Mul(big.NewInt(n/2), big.NewInt(n/2-1))
		is(t, "places of a", fmt.Sprint(restOf(evens, modulus), " 0"), list(impl.PlaceSum(full, "a", modulus))...)
		odds := new(big.Int).Mul(big.NewInt(n/2), big.NewInt(n/2))
		is(t, "places of b", fmt.Sprint(restOf(odds, modulus), " 0"), list(impl.PlaceSum(full, "b", modulus))...)
		is(t, "places of a letter that does not occur", "0 0", list(impl.PlaceSum(full, "d", modulus))...)
	}
	for _, x := range noLetters() {
		for _, modulus := range []int64{0, 1, 10, impl.MaxModulus + 1} {
			for _, g := range []impl.Grammar{{}, gram(example), full} {
				failsWith(t, "PlaceSum of no letter", list(impl.PlaceSum(g, x, modulus)), impl.ErrInvalid)
			}
		}
	}
}
