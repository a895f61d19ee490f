package tests

import (
	"fmt"
	"slices"
	"strings"
	"testing"
	"time"

	"loop.example/g01133/impl"
)

// autoArgs are arguments for all functions of chapter 4.
type autoArgs struct {
	a, b impl.Auto
	m    impl.Coder
	g    impl.Grammar
	s, n int64
	w    string
}

// autoCall is a call of a function of chapter 4, which returns its results, the code last.
type autoCall struct {
	name  string
	takes string // which arguments have to be valid
	call  func(x autoArgs) []any
}

func autoCalls() []autoCall {
	type args = autoArgs
	return []autoCall{
		{"RunWord", "aw", func(x args) []any { r, e := impl.RunWord(x.a, x.s, x.w); return list(r, e) }},
		{"RunGrammar", "ag", func(x args) []any { r, e := impl.RunGrammar(x.a, x.s, x.g); return list(r, e) }},
		{"StateMaps", "ag", func(x args) []any { r, e := impl.StateMaps(x.a, x.g); return list(r, e) }},
		{"StateAfter", "ag", func(x args) []any { r, e := impl.StateAfter(x.a, x.g, x.n); return list(r, e) }},
		{"VisitCounts", "ag", func(x args) []any { r, e := impl.VisitCounts(x.a, x.g); return list(r, e) }},
		{"FirstVisit", "ag", func(x args) []any { r, e := impl.FirstVisit(x.a, x.g, x.s); return list(r, e) }},
		{"AcceptsGrammar", "ag", func(x args) []any { r, e := impl.AcceptsGrammar(x.a, x.g); return list(r, e) }},
		{"CountAccepted", "ag", func(x args) []any { r, e := impl.CountAccepted(x.a, x.g); return list(r, e) }},
		{"NotAuto", "a", func(x args) []any { r, e := impl.NotAuto(x.a); return list(r, e) }},
		{"BothAuto", "ab", func(x args) []any { r, e := impl.BothAuto(x.a, x.b); return list(r, e) }},
		{"PatternAuto", "w", func(x args) []any { r, e := impl.PatternAuto(x.w); return list(r, e) }},
		{"CountPattern", "gw", func(x args) []any { r, e := impl.CountPattern(x.g, x.w); return list(r, e) }},
		{"NextPattern", "gw", func(x args) []any { r, e := impl.NextPattern(x.g, x.w, x.n); return list(r, e) }},
		{"PatternAt", "gw", func(x args) []any { r, e := impl.PatternAt(x.g, x.w, x.n); return list(r, e) }},
		{"CodeWord", "mw", func(x args) []any { r, e := impl.CodeWord(x.m, x.w); return list(r, e) }},
		{"CodedLength", "mg", func(x args) []any { r, e := impl.CodedLength(x.m, x.g); return list(r, e) }},
		{"CodeGrammar", "mg", func(x args) []any { r, e := impl.CodeGrammar(x.m, x.g); return list(r, e) }},
	}
}

// otherAutoCalls returns calls of the functions of chapter 4 that are given arguments that need not be valid.
func otherAutoCalls() []autoCall {
	type args = autoArgs
	return []autoCall{
		{"ValidAuto", "", func(x args) []any { return list(impl.ValidAuto(x.a)) }},
		{"SameAuto", "", func(x args) []any { return list(impl.SameAuto(x.a, x.b)) }},
		{"AutoText", "", func(x args) []any { return list(impl.AutoText(x.a)) }},
		{"ReadAuto", "", func(x args) []any { r, e := impl.ReadAuto(impl.AutoText(x.a)); return list(r, e) }},
		{"ValidCoder", "", func(x args) []any { return list(impl.ValidCoder(x.m)) }},
	}
}

// spoilNested overwrites all lists of results, also those in automata and in other lists.
func spoilNested(results []any) {
	for _, result := range results {
		switch made := result.(type) {
		case impl.Auto:
			for _, s := range made.Next {
				spoil(s)
			}
			spoil(made.Finals)
			spoil(made.Next)
		case [][]int64:
			for _, s := range made {
				spoil(s)
			}
		}
	}
	spoilAll(results)
}

// fillNumbers writes over a list, and over what it could still grow to.
func fillNumbers(list []int64, n int64) {
	list = list[:cap(list)]
	for k := range list {
		list[k] = n
	}
}

// apart checks that lists share no memory: each one is written over with its own number.
func apart(t *testing.T, name string, lists [][]int64) {
	t.Helper()
	for k, list := range lists {
		fillNumbers(list, int64(k)+1000)
	}
	for k, list := range lists {
		if slices.ContainsFunc(list[:cap(list)], func(n int64) bool { return n != int64(k)+1000 }) {
			t.Errorf("%s: the list %d shares memory with another one", name, k)
		}
	}
}

// somePatterns returns patterns of all lengths.
func somePatterns() []string {
	return []string{"a", "b", "ab", "ba", "aa", "d", "abaab", "dcba", strings.Repeat("a", 20), strings.Repeat("ab", 10), mixedWord("abcd", 20, 4)}
}

// TestPromise1AutomataReturn gives every function arguments of all kinds, each call within a few seconds.
func TestPromise1AutomataReturn(t *testing.T) {
	grammars := slices.Concat(manyGrammars(), invalidGrammars(), smallGrammars(2))
	autos := slices.Concat(longAutos(), invalidAutos(), smallAutos()[:20])
	coders := slices.Concat(someCoders()[:20], invalidCoders())
	words := slices.Concat(somePatterns(), []string{"", strings.Repeat("c", 21)}, longWords()[:4], invalidWords())
	numbers := append(someNumbers(), 4, 23, 24, 25)
	for _, f := range append(autoCalls(), otherAutoCalls()...) {
		for k := range 1500 {
			pick := mixing(uint32(k * 7717))
			x := autoArgs{
				autos[pick(len(autos))], autos[pick(len(autos))], coders[pick(len(coders))], grammars[pick(len(grammars))],
				numbers[pick(len(numbers))], numbers[pick(len(numbers))], words[pick(len(words))],
			}
			start := time.Now()
			results := f.call(x)
			if passed := time.Since(start); passed > 5*time.Second {
				t.Errorf("%s has taken %v", f.name, passed)
			}
			if code, ok := results[len(results)-1].(int64); ok && code != impl.OK {
				failsWith(t, f.name, results, code)
			}
		}
	}
	for _, text := range []string{strings.Repeat("state 0 0 0 0\n", 70000), strings.Repeat("\xff", 1000000), strings.Repeat(" ", 2000), strings.Repeat("\n", 2000), "auto " + strings.Repeat("9", 1900)} {
		a, code := impl.ReadAuto(text)
		if code == impl.OK {
			t.Errorf("ReadAuto of %.20q: got the code 0", text)
		}
		failsWith(t, "ReadAuto of a wrong text", list(a, code), code)
	}
}

// TestPromise1AutomataOfLongWords gives every function words of about MaxLength letters, and arguments that are right.
func TestPromise1AutomataOfLongWords(t *testing.T) {
	autos, coders := longAutos(), someCoders()
	for k, g := range manyGrammars() {
		n, _ := impl.LengthOf(g)
		for _, f := range autoCalls() {
			for l, a := range autos {
				b := autos[k%2]
				x := autoArgs{a, b, coders[(l*5+k)%len(coders)], g, 0, n / 3, somePatterns()[(k+l)%len(somePatterns())]}
				start := time.Now()
				code := codeOf(f.call(x))
				if passed := time.Since(start); passed > 5*time.Second {
					t.Errorf("%s has taken %v", f.name, passed)
				}
				right := []int64{impl.OK}
				switch f.name {
				case "FirstVisit", "NextPattern", "PatternAt":
					right = append(right, impl.ErrNotFound)
				case "CodedLength", "CodeGrammar":
					right = append(right, impl.ErrLimit)
				}
				if !slices.Contains(right, code) {
					t.Errorf("%s: got the code %d", f.name, code)
				}
			}
		}
	}
}

// TestPromise1AutomataRepeat calls every function twice, the first results being overwritten in between,
// and checks that arguments stay as they are, and what is behind them in memory.
func TestPromise1AutomataRepeat(t *testing.T) {
	grammars := slices.Concat(smallGrammars(2), mixedGrammars(20, 100)[:40], longGrammars(), invalidGrammars()[:26], []impl.Grammar{gram(example)})
	autos := slices.Concat(someAutos()[100:], invalidAutos()[:12])
	coders := slices.Concat(someCoders(), invalidCoders()[:12])
	words := append(somePatterns(), "", "e")
	for _, f := range append(autoCalls(), otherAutoCalls()...) {
		for k, g := range grammars {
			rules := withSpare(g)
			x := autoArgs{
				copiedAuto(autos[k%len(autos)]), copiedAuto(autos[(k*5+1)%len(autos)]), copiedCoder(coders[k%len(coders)]),
				impl.Grammar{Rules: rules[:len(g.Rules)]}, int64(k % 3), int64(k % 4), words[k%len(words)],
			}
			before := memoryOfAuto(x.a) + memoryOfAuto(x.b) + memoryOfCoder(x.m)
			first := f.call(x)
			want := fmt.Sprintf("%#v", first)
			spoilNested(first)
			if got := fmt.Sprintf("%#v", f.call(x)); got != want {
				t.Errorf("%s: got %.200s for the second time, and %.200s at first", f.name, got, want)
			}
			hasSpare(t, f.name, rules, g)
			if memoryOfAuto(x.a)+memoryOfAuto(x.b)+memoryOfCoder(x.m) != before {
				t.Errorf("%s has changed an automaton or a coder", f.name)
			}
		}
	}
}

// TestPromise1AutomataApart checks that lists of results share no memory with each other.
func TestPromise1AutomataApart(t *testing.T) {
	a := ring(6, 0, 2, 3)
	maps, _ := impl.StateMaps(a, gram(example))
	apart(t, "StateMaps", maps)
	same, _ := impl.StateMaps(a, rules(letter("a"), letter("a"), letter("a")))
	apart(t, "StateMaps of equal rules", same)
	not, _ := impl.NotAuto(a)
	apart(t, "NotAuto", append(not.Next, not.Finals))
	both, _ := impl.BothAuto(a, ring(4, 1))
	apart(t, "BothAuto", append(both.Next, both.Finals))
	pattern, _ := impl.PatternAuto("abaab")
	apart(t, "PatternAuto", append(pattern.Next, pattern.Finals))
	read, _ := impl.ReadAuto(autoTextOf(a))
	apart(t, "ReadAuto", append(read.Next, read.Finals))
	counts, _ := impl.VisitCounts(a, gram(example))
	apart(t, "all", append(append(slices.Clone(a.Next), a.Finals, counts), maps...))
}

// TestPromise1AutomataNil checks that empty lists are the same whether they are nil or not.
func TestPromise1AutomataNil(t *testing.T) {
	one, two := autoArgs{a: ring(2), b: ring(3), m: someCoders()[0]}, autoArgs{a: ring(2), b: ring(3), m: someCoders()[0]}
	one.a.Finals, one.b.Finals = nil, nil
	two.a.Finals, two.b.Finals, two.g.Rules = []int64{}, []int64{}, []impl.Rule{}
	bad := []autoArgs{{}, {a: impl.Auto{Finals: []int64{}, Next: [][]int64{}}, m: impl.Coder{Next: [][]int64{}, Out: [][]string{}}}}
	for _, f := range append(autoCalls(), otherAutoCalls()...) {
		for _, x := range [][]autoArgs{{one, two}, {two, one}, bad} {
			if got, want := fmt.Sprint(f.call(x[0])...), fmt.Sprint(f.call(x[1])...); got != want {
				t.Errorf("%s: got %s and %s", f.name, got, want)
			}
		}
	}
	is(t, "SameAuto of nil and empty lists", "true true true", impl.SameAuto(one.a, two.a), impl.SameAuto(bad[0].a, bad[1].a), impl.SameAuto(impl.Auto{Next: [][]int64{nil}}, impl.Auto{Next: [][]int64{{}}}))
}

// TestPromise1AutomataInvalid checks that an argument that is not valid comes ahead of all other errors.
func TestPromise1AutomataInvalid(t *testing.T) {
	fine := autoArgs{a: ring(24, 1), b: ring(2), m: mixedCoder(5, 3), g: fullGrammar(), w: "ab"}
	empty := fine
	empty.g, empty.w = impl.Grammar{}, ""
	check := func(takes string, x autoArgs) {
		t.Helper()
		for _, f := range autoCalls() {
			if !strings.Contains(f.takes, takes) {
				continue
			}
			for _, n := range []int64{least, -1, 0, 1, 24, greatest} {
				x.s, x.n = n, n
				failsWith(t, f.name+" with an invalid argument", f.call(x), impl.ErrInvalid)
			}
		}
	}
	for _, x := range []autoArgs{fine, empty} {
		for _, bad := range invalidAutos() {
			y, z := x, x
			y.a, z.b = bad, bad
			check("a", y)
			check("b", z)
		}
		for _, bad := range invalidCoders() {
			y := x
			y.m = bad
			check("m", y)
		}
		for _, bad := range invalidGrammars() {
			y, z := x, x
			y.g, z.g, z.w = bad, bad, strings.Repeat("a", 21)
			check("g", y)
			check("g", z)
		}
		for _, bad := range invalidWords() {
			y := x
			y.w = bad
			check("w", y)
		}
	}
}

// TestPromise1AutomataErrorOrder checks which of two errors comes first.
func TestPromise1AutomataErrorOrder(t *testing.T) {
	full, none, long := fullGrammar(), impl.Grammar{}, strings.Repeat("a", 21)
	for _, n := range []int64{least, -1, impl.MaxLength + 1, greatest} {
		place, code := impl.NextPattern(full, "", n)
		failsWith(t, "a place that is none, of an empty pattern", list(place, code), impl.ErrState)
		place, code = impl.NextPattern(full, long, n)
		failsWith(t, "a place that is none, of a long pattern", list(place, code), impl.ErrLimit)
		place, code = impl.NextPattern(full, "c", n)
		failsWith(t, "a place that is none, of a pattern that is not met", list(place, code), impl.ErrRange)
		place, code = impl.PatternAt(full, "", n)
		failsWith(t, "an empty pattern at no place", list(place, code), impl.ErrState)
		place, code = impl.PatternAt(full, long, n)
		failsWith(t, "a long pattern at no place", list(place, code), impl.ErrLimit)
		s, code := impl.FirstVisit(ring(3), none, n)
		failsWith(t, "a visit of a state that is none", list(s, code), impl.ErrRange)
	}
	place, code := impl.PatternAt(none, "a", -1)
	failsWith(t, "a negative time of a pattern that is not met", list(place, code), impl.ErrRange)
	place, code = impl.NextPattern(none, "a", 1)
	failsWith(t, "a place behind nothing", list(place, code), impl.ErrRange)
	place, code = impl.NextPattern(none, "a", 0)
	failsWith(t, "a pattern in nothing", list(place, code), impl.ErrNotFound)
	s, code := impl.FirstVisit(ring(3), none, 1)
	failsWith(t, "a visit in nothing", list(s, code), impl.ErrNotFound)
	a, code := impl.ReadAuto(strings.Repeat("x", 2001))
	failsWith(t, "a wrong text that is too long", list(a, code), impl.ErrRange)
	count, code := impl.CountPattern(none, "")
	failsWith(t, "an empty pattern in nothing", list(count, code), impl.ErrState)
	count, code = impl.CountPattern(none, long)
	failsWith(t, "a long pattern in nothing", list(count, code), impl.ErrLimit)
}
