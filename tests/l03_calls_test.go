package tests

import (
	"fmt"
	"slices"
	"testing"
	"time"

	"loop.example/g01133/impl"
)

// equalityArgs are arguments for all functions of chapter 3.
type equalityArgs struct {
	g, h         impl.Grammar
	i, j, length int64
	places       []int64
}

// equalityCall is a call of a function of chapter 3, which returns its results, the code last.
type equalityCall struct {
	name string
	both bool // whether it is given two grammars
	call func(x equalityArgs) []any
}

func equalityCalls() []equalityCall {
	type args = equalityArgs
	return []equalityCall{
		{"EqualWords", true, func(x args) []any { a, e := impl.EqualWords(x.g, x.h); return list(a, e) }},
		{"FirstDifference", true, func(x args) []any { a, e := impl.FirstDifference(x.g, x.h); return list(a, e) }},
		{"CompareGrammars", true, func(x args) []any { a, e := impl.CompareGrammars(x.g, x.h); return list(a, e) }},
		{"EqualParts", false, func(x args) []any { a, e := impl.EqualParts(x.g, x.i, x.j, x.length); return list(a, e) }},
		{"CommonFrom", false, func(x args) []any { a, e := impl.CommonFrom(x.g, x.i, x.j); return list(a, e) }},
		{"StartsWith", true, func(x args) []any { a, e := impl.StartsWith(x.g, x.h); return list(a, e) }},
		{"EndsWith", true, func(x args) []any { a, e := impl.EndsWith(x.g, x.h); return list(a, e) }},
		{"HasPeriod", false, func(x args) []any { a, e := impl.HasPeriod(x.g, x.i); return list(a, e) }},
		{"IsPalindromic", false, func(x args) []any { a, e := impl.IsPalindromic(x.g); return list(a, e) }},
		{"IsShiftBy", true, func(x args) []any { a, e := impl.IsShiftBy(x.g, x.h, x.i); return list(a, e) }},
		{"RootPower", false, func(x args) []any { a, b, e := impl.RootPower(x.g); return list(a, b, e) }},
		{"IsPowerOf", true, func(x args) []any { a, e := impl.IsPowerOf(x.g, x.h); return list(a, e) }},
		{"SamePart", true, func(x args) []any { a, e := impl.SamePart(x.g, x.h, x.i, x.j, x.length); return list(a, e) }},
		{"FirstUnlike", false, func(x args) []any { a, e := impl.FirstUnlike(x.g); return list(a, e) }},
		{"LongestTwice", false, func(x args) []any { a, e := impl.LongestTwice(x.g, x.i); return list(a, e) }},
		{"SortParts", false, func(x args) []any { a, e := impl.SortParts(x.g, x.places); return list(a, e) }},
		{"EqualRules", false, func(x args) []any { a, e := impl.EqualRules(x.g); return list(a, e) }},
	}
}

// manyGrammars returns grammars of MaxRules rules whose words have up to MaxLength letters and no evident order.
func manyGrammars() []impl.Grammar {
	grammars := longGrammars()
	long := rules(fibonacci().Rules[:70]...)
	for k := range 3 {
		// Each rule is a little longer than the one before, at one end or at the other one.
		g := rules(slices.Clone(long.Rules)...)
		for l := 0; len(g.Rules) < impl.MaxRules; l++ {
			short := (l*l*(k+3) + l*7) % (20 * (k + 1))
			if (l*5+k)%3 == 0 {
				g.Rules = append(g.Rules, pair(last(g), short))
			} else {
				g.Rules = append(g.Rules, pair(short, last(g)))
			}
		}
		grammars = append(grammars, g)
	}
	for k := range 4 {
		grammars = append(grammars, grown(uint64(k+1)))
	}
	return grammars
}

// grown returns a grammar of MaxRules rules, most of which are pairs of rules shortly before.
func grown(seed uint64) impl.Grammar {
	next := func(n int) int {
		seed = seed*6364136223846793005 + 1442695040888963407
		return int(seed>>33) % n
	}
	g := rules(letter("a"), letter("b"), letter("c"))
	lengths := []int64{1, 1, 1}
	for len(g.Rules) < impl.MaxRules {
		left, right := last(g)-next(min(len(g.Rules), 12)), last(g)-next(min(len(g.Rules), 12))
		for lengths[left]+lengths[right] > impl.MaxLength {
			left, right = left*3/4, right*4/5
		}
		g.Rules = append(g.Rules, pair(left, right))
		lengths = append(lengths, lengths[left]+lengths[right])
	}
	return g
}

// TestPromise1EqualityReturns gives every function arguments of all kinds, each call within a few seconds.
func TestPromise1EqualityReturns(t *testing.T) {
	grammars := slices.Concat(manyGrammars(), invalidGrammars(), smallGrammars(2))
	lists := [][]int64{nil, {0}, {0, 1, 0}, {least, greatest}, make([]int64, 20), make([]int64, 21), make([]int64, 1000000)}
	numbers := someNumbers()
	for _, f := range equalityCalls() {
		for k, g := range grammars {
			for n, i := range numbers {
				if n%3 != k%3 {
					continue
				}
				h := grammars[(k*5+n)%len(grammars)]
				x := equalityArgs{g, h, i, numbers[(n*3+k)%len(numbers)], numbers[(n*7+k)%len(numbers)], lists[(n+k)%len(lists)]}
				inSeconds(t, f.name, func() []any { return f.call(x) })
			}
		}
	}
}

// TestPromise1EqualityOfLongWords gives every function words of about MaxLength letters, and numbers that are right.
func TestPromise1EqualityOfLongWords(t *testing.T) {
	for _, g := range manyGrammars() {
		n, _ := impl.LengthOf(g)
		if n < 3 {
			continue
		}
		turned, _ := impl.TurnGrammar(g)
		places := []int64{}
		for k := range int64(20) {
			places = append(places, n/19*k)
		}
		for _, f := range equalityCalls() {
			for k, h := range []impl.Grammar{turned, g} {
				if k > 0 && !f.both {
					continue
				}
				i := n / 3
				if f.name == "LongestTwice" {
					i = max(0, n-impl.MaxPlain)
				}
				start := time.Now()
				results := f.call(equalityArgs{g, h, i, n / 2, n / 4, places})
				if passed := time.Since(start); passed > 5*time.Second {
					t.Errorf("%s has taken %v", f.name, passed)
				}
				code := codeOf(results)
				if code != impl.OK && code != impl.ErrNotFound && !(f.name == "RootPower" && code == impl.ErrLimit) {
					t.Errorf("%s: got the code %d", f.name, code)
				}
			}
		}
	}
}

// TestPromise1EqualityRepeats calls every function twice, the first results being overwritten in between,
// and checks that arguments stay as they are, and what is behind them in memory.
func TestPromise1EqualityRepeats(t *testing.T) {
	grammars := slices.Concat(smallGrammars(2), mixedGrammars(20, 100)[:60], manyGrammars(), invalidGrammars()[:26], []impl.Grammar{gram(example)})
	for _, f := range equalityCalls() {
		for k, g := range grammars {
			h := grammars[(k*7+1)%len(grammars)]
			one, two := withSpare(g), withSpare(h)
			places := []int64{int64(k % 3), 1, 0, 1, -3, -4, -5}
			call := func() []any {
				x := equalityArgs{impl.Grammar{Rules: one[:len(g.Rules)]}, impl.Grammar{Rules: two[:len(h.Rules)]}, int64(k % 4), int64(k % 3), int64(k % 2), places[:4]}
				return f.call(x)
			}
			first := call()
			want := fmt.Sprintf("%#v", first)
			spoilAll(first)
			if got := fmt.Sprintf("%#v", call()); got != want {
				t.Errorf("%s: got %.200s for the second time, and %.200s at first", f.name, got, want)
			}
			hasSpare(t, f.name, one, g)
			hasSpare(t, f.name, two, h)
			if !slices.Equal(places, []int64{int64(k % 3), 1, 0, 1, -3, -4, -5}) {
				t.Errorf("%s has changed the places to %v", f.name, places)
			}
		}
	}
}

// TestPromise1EqualityNil checks that no rules are the same whether they are nil or not.
func TestPromise1EqualityNil(t *testing.T) {
	none, bare := impl.Grammar{}, impl.Grammar{Rules: []impl.Rule{}}
	for _, f := range equalityCalls() {
		for _, i := range []int64{-1, 0, 1} {
			one := f.call(equalityArgs{none, none, i, 0, 0, nil})
			two := f.call(equalityArgs{bare, bare, i, 0, 0, []int64{}})
			if fmt.Sprint(one...) != fmt.Sprint(two...) {
				t.Errorf("%s: got %v and %v", f.name, one, two)
			}
		}
	}
}

// TestPromise1EqualityInvalid checks that a grammar that is not valid comes ahead of all other errors.
func TestPromise1EqualityInvalid(t *testing.T) {
	some := []impl.Grammar{{}, gram(example), chain(400), fullGrammar()}
	for _, bad := range invalidGrammars() {
		for _, f := range equalityCalls() {
			for k, i := range []int64{least, -1, 0, 1, 1 << 40, greatest} {
				for _, places := range [][]int64{nil, {-1}, make([]int64, 21)} {
					x := equalityArgs{bad, some[k%len(some)], i, i, -i, places}
					failsWith(t, f.name+" of an invalid grammar", f.call(x), impl.ErrInvalid)
					x.h = bad
					failsWith(t, f.name+" of invalid grammars", f.call(x), impl.ErrInvalid)
				}
				if f.both {
					for _, g := range some {
						failsWith(t, f.name+" with an invalid grammar", f.call(equalityArgs{g, bad, i, 0, i, nil}), impl.ErrInvalid)
					}
				}
			}
		}
	}
}

// TestPromise1EqualityErrorOrder checks which of two errors comes first.
func TestPromise1EqualityErrorOrder(t *testing.T) {
	full, none := fullGrammar(), impl.Grammar{}
	n := int64(impl.MaxLength)
	for _, i := range []int64{least, -1, n + 1, greatest} {
		length, code := impl.LongestTwice(full, i)
		failsWith(t, "a place that is none, with too many letters", list(length, code), impl.ErrRange)
		yes, code := impl.IsShiftBy(full, none, i)
		failsWith(t, "a shift that is none, of another length", list(yes, code), impl.ErrRange)
		yes, code = impl.HasPeriod(full, i)
		failsWith(t, "a period that is none", list(yes, code), impl.ErrRange)
	}
	times, code := impl.IsPowerOf(full, none)
	failsWith(t, "a power of nothing", list(times, code), impl.ErrState)
	times, code = impl.IsPowerOf(full, gram("c\n"))
	failsWith(t, "no power", list(times, code), impl.ErrNotFound)
	root, times, code := impl.RootPower(none)
	failsWith(t, "the root of nothing", list(root, times, code), impl.ErrState)
	root, times, code = impl.RootPower(full)
	failsWith(t, "the root of the longest word", list(root, times, code), impl.ErrLimit)
	for _, p := range []int64{least, -1, 0, 1, greatest} {
		yes, code := impl.HasPeriod(none, p)
		failsWith(t, "a period of nothing", list(yes, code), impl.ErrRange)
	}
	yes, code := impl.IsShiftBy(none, none, 0)
	saysWhether(t, "the shift of nothing", yes, code, true)
	yes, code = impl.IsShiftBy(none, full, 0)
	saysWhether(t, "a word that is no shift of nothing", yes, code, false)
	yes, code = impl.IsPalindromic(none)
	saysWhether(t, "nothing turned", yes, code, true)
}
