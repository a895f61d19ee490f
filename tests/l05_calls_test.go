package tests

import (
	"fmt"
	"slices"
	"strings"
	"testing"

	"loop.example/g01133/impl"
)

// countArgs are arguments for all functions of chapter 5.
type countArgs struct {
	g             impl.Grammar
	p, x, y       string // a plain word, and two letters
	n, m          int64
	base, modulus int64
	weights       []int64
}

// countCall is a call of a function of chapter 5, which returns its results, the code last.
type countCall struct {
	name  string
	takes string // which arguments it is given
	call  func(x countArgs) []any
}

func countCalls() []countCall {
	type args = countArgs
	return []countCall{
		{"PairCounts", "g", func(x args) []any { r, e := impl.PairCounts(x.g); return list(r, e) }},
		{"RunCount", "g", func(x args) []any { r, e := impl.RunCount(x.g); return list(r, e) }},
		{"LongestRuns", "g", func(x args) []any { r, e := impl.LongestRuns(x.g); return list(r, e) }},
		{"RankOf", "gx", func(x args) []any { r, e := impl.RankOf(x.g, x.x, x.n); return list(r, e) }},
		{"SelectOf", "gx", func(x args) []any { r, e := impl.SelectOf(x.g, x.x, x.n); return list(r, e) }},
		{"ScatteredCount", "gpm", func(x args) []any { r, e := impl.ScatteredCount(x.g, x.p, x.modulus); return list(r, e) }},
		{"ScatteredParts", "gpm", func(x args) []any { r, e := impl.ScatteredParts(x.g, x.p, x.modulus); return list(r, e) }},
		{"EmbedFirst", "gp", func(x args) []any { r, e := impl.EmbedFirst(x.g, x.p); return list(r, e) }},
		{"EmbedLast", "gp", func(x args) []any { r, e := impl.EmbedLast(x.g, x.p); return list(r, e) }},
		{"EmbeddedStart", "gp", func(x args) []any { r, e := impl.EmbeddedStart(x.g, x.p); return list(r, e) }},
		{"SparePower", "gp", func(x args) []any { r, e := impl.SparePower(x.g, x.p); return list(r, e) }},
		{"InversionCount", "gm", func(x args) []any { r, e := impl.InversionCount(x.g, x.modulus); return list(r, e) }},
		{"PlaceSum", "gxm", func(x args) []any { r, e := impl.PlaceSum(x.g, x.x, x.modulus); return list(r, e) }},
		{"ClimbOf", "gw", func(x args) []any { r, e := impl.ClimbOf(x.g, x.weights); return list(r, e) }},
		{"ClimbAt", "gw", func(x args) []any { r, e := impl.ClimbAt(x.g, x.weights, x.n); return list(r, e) }},
		{"FirstBelow", "gw", func(x args) []any { r, e := impl.FirstBelow(x.g, x.weights, x.n); return list(r, e) }},
		{"IsBalanced", "gxy", func(x args) []any { r, e := impl.IsBalanced(x.g, x.x, x.y); return list(r, e) }},
		{"PrintOf", "gm", func(x args) []any { r, e := impl.PrintOf(x.g, x.base, x.modulus); return list(r, e) }},
		{"PrintOfPart", "gm", func(x args) []any {
			r, e := impl.PrintOfPart(x.g, x.n, x.m, x.base, x.modulus)
			return list(r, e)
		}},
	}
}

// within calls a function, which has to return within a few seconds, with zero results beside an error.
func within(t *testing.T, f countCall, x countArgs) []any {
	t.Helper()
	return inSeconds(t, f.name, func() []any { return f.call(x) })
}

// TestPromise1CountsReturn gives every function arguments of all kinds, each call within a few seconds.
func TestPromise1CountsReturn(t *testing.T) {
	grammars := slices.Concat(manyGrammars(), invalidGrammars(), smallGrammars(2))
	words := slices.Concat(longWords(), invalidWords(), somePatterns(), []string{"", "aaaaaaaa", "aaaaaaaaa"})
	texts := slices.Concat(each(), each(), each(), noLetters())
	numbers := append(someNumbers(), 4, -9, 9, 10)
	moduli := slices.Concat(someModuli(), someModuli(), numbers, []int64{impl.MaxModulus + 1})
	weights := slices.Concat(someWeights(), wrongWeights())
	for _, f := range countCalls() {
		for k := range 1500 {
			next := mixing(uint32(k * 7717))
			number := func() int64 { return numbers[next(len(numbers))] }
			within(t, f, countArgs{
				grammars[next(len(grammars))], words[next(len(words))], texts[next(len(texts))], texts[next(len(texts))],
				number(), number(), number(), moduli[next(len(moduli))], weights[next(len(weights))],
			})
		}
	}
}

// TestPromise1CountsOfLongWords gives every function words of about MaxLength letters, and arguments that are right.
func TestPromise1CountsOfLongWords(t *testing.T) {
	some := append(longWords(), "ab", "d", "aaaaaaaa", "bacabacd")
	for k, g := range manyGrammars() {
		n, _ := impl.LengthOf(g)
		for _, f := range countCalls() {
			for l, p := range some {
				if strings.HasPrefix(f.name, "Scattered") {
					p = p[:min(len(p), impl.MaxScattered)]
				}
				modulus := someModuli()[(k+l)%len(someModuli())]
				x := countArgs{g, p, each()[l%4], each()[(l+1)%4], n / 3, n/3*2 + 1, modulus / 2, modulus, someWeights()[(k+l)%len(someWeights())]}
				right := []int64{impl.OK}
				switch f.name {
				case "SelectOf", "FirstBelow", "EmbedFirst", "EmbedLast":
					right = append(right, impl.ErrNotFound)
				}
				if code := codeOf(within(t, f, x)); !slices.Contains(right, code) {
					t.Errorf("%s: got the code %d", f.name, code)
				}
			}
		}
	}
}

// TestPromise1CountsRepeat calls every function twice, the first results being overwritten in between,
// and checks that arguments stay as they are, and what is behind them in memory.
func TestPromise1CountsRepeat(t *testing.T) {
	grammars := slices.Concat(smallGrammars(2), mixedGrammars(20, 100)[:60], longGrammars(), invalidGrammars()[:26], []impl.Grammar{gram(example)})
	words := []string{"", "a", "ab", "ba", "abab", "aabbaabb", "dcba", "e", "aaaaaaaaa", strings.Repeat("ab", 30)}
	lists := slices.Concat(someWeights(), wrongWeights()[1:5])
	for _, f := range countCalls() {
		for k, g := range grammars {
			rules := withSpare(g)
			weights := roomy(lists[k%len(lists)], -7)
			modulus := someModuli()[k%len(someModuli())]
			x := countArgs{
				impl.Grammar{Rules: rules[:len(g.Rules)]}, words[k%len(words)], each()[k%4], each()[k/4%4],
				int64(k % 3), int64(k % 4), modulus - 1, modulus, weights,
			}
			before := memoryOf(weights)
			first := f.call(x)
			want := fmt.Sprintf("%#v", first)
			spoilNested(first)
			if got := fmt.Sprintf("%#v", f.call(x)); got != want {
				t.Errorf("%s: got %.200s for the second time, and %.200s at first", f.name, got, want)
			}
			hasSpare(t, f.name, rules, g)
			if memoryOf(weights) != before {
				t.Errorf("%s has changed weights", f.name)
			}
		}
	}
}

// TestPromise1CountsApart checks that lists of results share no memory with each other.
func TestPromise1CountsApart(t *testing.T) {
	for _, g := range []impl.Grammar{{}, gram("a\n"), gram(example), fullGrammar()} {
		pairs, _ := impl.PairCounts(g)
		apart(t, "PairCounts", pairs)
		parts, _ := impl.ScatteredParts(g, "abab", 10)
		apart(t, "ScatteredParts", parts)
		none, _ := impl.ScatteredParts(g, "", 10)
		apart(t, "ScatteredParts of nothing", none)
		longest, _ := impl.LongestRuns(g)
		first, _ := impl.EmbedFirst(g, "a")
		last, _ := impl.EmbedLast(g, "a")
		apart(t, "all", slices.Concat(pairs, parts, none, [][]int64{longest, first, last}))
	}
}

// TestPromise1CountsNil checks that no rules are the same whether they are nil or not, and no weights.
func TestPromise1CountsNil(t *testing.T) {
	for _, f := range countCalls() {
		for _, n := range []int64{-1, 0, 1} {
			one := countArgs{p: "ab", x: "a", y: "b", n: n, modulus: 10, weights: someWeights()[0]}
			two := one
			two.g.Rules = []impl.Rule{}
			is(t, f.name+" without rules", fmt.Sprint(f.call(one)...), fmt.Sprint(f.call(two)...))
			one.weights, two.weights = nil, []int64{}
			is(t, f.name+" without weights", fmt.Sprint(f.call(one)...), fmt.Sprint(f.call(two)...))
		}
	}
}

// TestPromise1CountsInvalid checks that an argument that is not valid comes ahead of all other errors.
func TestPromise1CountsInvalid(t *testing.T) {
	fine := countArgs{g: fullGrammar(), p: "ab", x: "a", y: "b", n: 1, m: 2, base: 3, modulus: 10, weights: someWeights()[0]}
	empty := fine
	empty.g, empty.p = impl.Grammar{}, ""
	// Everything else is wrong in other ways.
	wrong := fine
	wrong.p, wrong.y, wrong.base, wrong.modulus, wrong.weights = strings.Repeat("a", 9), "a", -1, 0, nil
	check := func(takes string, change func(x *countArgs)) {
		t.Helper()
		for _, f := range countCalls() {
			if !strings.Contains(f.takes, takes) {
				continue
			}
			for _, x := range []countArgs{fine, empty, wrong} {
				change(&x)
				for _, n := range []int64{least, -1, 0, impl.MaxLength + 1, greatest} {
					x.n, x.m = n, -n
					failsWith(t, f.name+" with an invalid argument", f.call(x), impl.ErrInvalid)
				}
			}
		}
	}
	for _, bad := range invalidGrammars() {
		check("g", func(x *countArgs) { x.g = bad })
	}
	for _, bad := range invalidWords() {
		check("p", func(x *countArgs) { x.p = bad })
	}
	for _, bad := range noLetters() {
		check("x", func(x *countArgs) { x.x = bad })
		check("y", func(x *countArgs) { x.y = bad })
		check("xy", func(x *countArgs) { x.x, x.y = bad, bad })
	}
}

// TestPromise1CountsErrorOrder checks which of two errors comes first.
func TestPromise1CountsErrorOrder(t *testing.T) {
	full, none, long := fullGrammar(), impl.Grammar{}, strings.Repeat("a", 9)
	for _, g := range []impl.Grammar{none, full} {
		for _, modulus := range []int64{least, 0, impl.MaxModulus + 1} {
			failsWith(t, "a long word with no modulus", list(impl.ScatteredCount(g, long, modulus)), impl.ErrRange)
			failsWith(t, "parts of a long word with no modulus", list(impl.ScatteredParts(g, long, modulus)), impl.ErrRange)
		}
		failsWith(t, "a long word", list(impl.ScatteredCount(g, long, 1)), impl.ErrLimit)
		failsWith(t, "parts of a long word", list(impl.ScatteredParts(g, long, 1)), impl.ErrLimit)
		failsWith(t, "a negative time of a letter that does not occur", list(impl.SelectOf(g, "d", -1)), impl.ErrRange)
		failsWith(t, "a letter that does not occur", list(impl.SelectOf(g, "d", 0)), impl.ErrNotFound)
		failsWith(t, "a bound below everything, of wrong weights", list(impl.FirstBelow(g, nil, least)), impl.ErrRange)
		failsWith(t, "a bound below everything", list(impl.FirstBelow(g, someWeights()[0], least)), impl.ErrNotFound)
		failsWith(t, "the power of nothing", list(impl.SparePower(g, "")), impl.ErrState)
		failsWith(t, "a word that is not scattered", list(impl.EmbedFirst(g, "d")), impl.ErrNotFound)
		failsWith(t, "a word that is not scattered", list(impl.EmbedLast(g, "d")), impl.ErrNotFound)
	}
}
