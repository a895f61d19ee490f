package tests

import (
	"fmt"
	"slices"
	"strings"
	"testing"

	"loop.example/g01133/impl"
)

// makerArgs are arguments for all functions of chapter 6.
type makerArgs struct {
	w, text     string // a plain word, and the text of factors
	g           impl.Grammar
	list, other []impl.Factor
}

// makerCall is a call of a function of chapter 6, which returns its results, the code last if there is one.
type makerCall struct {
	name  string
	takes string // which argument it is given that may not be valid
	call  func(x makerArgs) []any
}

// makerCalls returns calls of all functions that return a code.
func makerCalls() []makerCall {
	type args = makerArgs
	return []makerCall{
		{"HalvingGrammar", "w", func(x args) []any { r, e := impl.HalvingGrammar(x.w); return list(r, e) }},
		{"RunsGrammar", "w", func(x args) []any { r, e := impl.RunsGrammar(x.w); return list(r, e) }},
		{"PairsGrammar", "w", func(x args) []any { r, e := impl.PairsGrammar(x.w); return list(r, e) }},
		{"PhrasesOf", "w", func(x args) []any { r, e := impl.PhrasesOf(x.w); return list(r, e) }},
		{"PhraseGrammar", "w", func(x args) []any { r, e := impl.PhraseGrammar(x.w); return list(r, e) }},
		{"FactorsOf", "w", func(x args) []any { r, e := impl.FactorsOf(x.w); return list(r, e) }},
		{"ReadFactors", "", func(x args) []any { r, e := impl.ReadFactors(x.text); return list(r, e) }},
		{"FactorsLength", "f", func(x args) []any { r, e := impl.FactorsLength(x.list); return list(r, e) }},
		{"WordOfFactors", "f", func(x args) []any { r, e := impl.WordOfFactors(x.list); return list(r, e) }},
		{"FactorsGrammar", "f", func(x args) []any { r, e := impl.FactorsGrammar(x.list); return list(r, e) }},
		{"IsLevel", "g", func(x args) []any { r, e := impl.IsLevel(x.g); return list(r, e) }},
		{"LevelGrammar", "g", func(x args) []any { r, e := impl.LevelGrammar(x.g); return list(r, e) }},
		{"LeastRules", "w", func(x args) []any { r, e := impl.LeastRules(x.w); return list(r, e) }},
	}
}

// allMakerCalls returns calls of all functions of chapter 6, those that return no code with OK.
func allMakerCalls() []makerCall {
	type args = makerArgs
	const ok = int64(impl.OK)
	return append(makerCalls(),
		makerCall{"ValidFactors", "", func(x args) []any { return list(impl.ValidFactors(x.list), ok) }},
		makerCall{"SameFactors", "", func(x args) []any { return list(impl.SameFactors(x.list, x.other), ok) }},
		makerCall{"FactorsText", "", func(x args) []any { return list(impl.FactorsText(x.list), ok) }},
	)
}

// inTime calls a function, which has to return within a few seconds, with zero results beside an error.
func inTime(t *testing.T, f makerCall, x makerArgs) []any {
	t.Helper()
	return inSeconds(t, f.name, func() []any { return f.call(x) })
}

// manyFactors returns valid lists of factors of MaxFactors factors, or of long words.
func manyFactors() [][]impl.Factor {
	lists := append(longFactors(), lettersOnly(mixedWord("abcd", impl.MaxFactors, 1)))
	for seed := range uint32(20) {
		lists = append(lists, mixedFactors(nil, impl.MaxFactors, 1+1<<seed, seed), mixedFactors(doublings("abc", int(seed)), 60, 1<<43, seed))
	}
	return lists
}

// TestPromise1MakersReturn gives every function arguments of all kinds, each call within a few seconds.
func TestPromise1MakersReturn(t *testing.T) {
	words := slices.Concat(longWords(), invalidWords(), makerWords()[:40], []string{"", "a", "abcdabcd", "aaaaaaaaa"})
	grammars := slices.Concat(manyGrammars(), invalidGrammars(), smallGrammars(2))
	lists := slices.Concat(manyFactors(), invalidFactors(), smallFactors(2))
	texts := append(wrongFactorTexts(), "", "a\n", strings.Repeat("a\n", 500000), factorLines(fullFactors()))
	for _, f := range allMakerCalls() {
		for k := range 400 {
			next := mixing(uint32(k * 9973))
			inTime(t, f, makerArgs{words[next(len(words))], texts[next(len(texts))], grammars[next(len(grammars))], lists[next(len(lists))], lists[next(len(lists))]})
		}
	}
}

// TestPromise1MakersTakeAll gives every function words of MaxPlain letters, grammars of MaxRules rules and lists
// of MaxFactors factors, which may only be too many for a result.
func TestPromise1MakersTakeAll(t *testing.T) {
	check := func(takes string, x makerArgs) {
		t.Helper()
		for _, f := range makerCalls() {
			if !strings.Contains(f.takes, takes) {
				continue
			}
			if code := codeOf(inTime(t, f, x)); code != impl.OK && code != impl.ErrLimit {
				t.Errorf("%s: got the code %d", f.name, code)
			}
		}
	}
	words := append(longWords(), mixedWord("abc", impl.MaxPlain, 5), strings.Repeat("aab", 666), strings.Repeat("a", 1000)+strings.Repeat("b", 1000))
	for k := range 12 {
		words = append(words, strings.Repeat(mixedWord("ab", 3+k*k, uint32(k)), 2000)[:impl.MaxPlain])
	}
	for _, w := range words {
		check("w", makerArgs{w: w})
	}
	for _, g := range manyGrammars() {
		check("g", makerArgs{g: g})
	}
	for _, list := range manyFactors() {
		is(t, "ValidFactors", "true", impl.ValidFactors(list))
		check("f", makerArgs{list: list})
	}
}

// TestPromise1MakersRepeat calls every function twice, the first results being overwritten in between,
// and checks that arguments stay as they are, and what is behind them in memory.
func TestPromise1MakersRepeat(t *testing.T) {
	words := append(longWords()[:5], "", "a", "abaab", "abcdabcd", "abab", "aaaa", "e", strings.Repeat("ab", 30), mixedWord("abc", 150, 7))
	grammars := slices.Concat(smallGrammars(2), mixedGrammars(20, 100)[:60], longGrammars(), invalidGrammars()[:26], []impl.Grammar{gram(example)})
	lists := slices.Concat(smallFactors(2), longFactors(), invalidFactors()[7:40])
	for _, f := range allMakerCalls() {
		for k, g := range grammars {
			rules := withSpare(g)
			one, two := roomy(lists[k%len(lists)], again(-7, -8)), roomy(lists[k*3%len(lists)], again(-7, -8))
			before := memoryOf(one) + memoryOf(two)
			x := makerArgs{words[k%len(words)], factorLines(one), impl.Grammar{Rules: rules[:len(g.Rules)]}, one, two}
			first := f.call(x)
			want := fmt.Sprintf("%#v", first)
			spoilAll(first)
			if got := fmt.Sprintf("%#v", f.call(x)); got != want {
				t.Errorf("%s: got %.200s for the second time, and %.200s at first", f.name, got, want)
			}
			hasSpare(t, f.name, rules, g)
			if memoryOf(one)+memoryOf(two) != before {
				t.Errorf("%s has changed factors", f.name)
			}
		}
	}
}

// TestPromise1MakersApart checks that a result does not share its memory with an argument.
func TestPromise1MakersApart(t *testing.T) {
	for _, text := range []string{"a\n", "a\nb\n", example, "a\n0 0\n1 1\n"} {
		g := impl.Grammar{Rules: withSpare(gram(text))[:len(gram(text).Rules)]}
		level, code := impl.LevelGrammar(must(t, g, impl.OK))
		spoil(must(t, level, code).Rules)
		is(t, "what a level grammar is made of", text, textOf(g))
	}
	for _, text := range []string{"a\n", "a\nb\n", "a\nb\n0 2\n"} {
		list := roomy(factorsOfText(text), lone("d"))
		g, code := impl.FactorsGrammar(list)
		spoil(must(t, g, code).Rules)
		read, _ := impl.ReadFactors(text)
		spoil(read)
		is(t, "what a grammar of factors is made of", text, factorLines(list))
	}
}

// TestPromise1MakersNil checks that no rules, and no factors, are the same whether they are nil or not.
func TestPromise1MakersNil(t *testing.T) {
	bare := makerArgs{g: impl.Grammar{Rules: []impl.Rule{}}, list: []impl.Factor{}, other: []impl.Factor{}}
	want := map[string]string{"PhrasesOf": "[] 0", "FactorsOf": "[] 0", "ReadFactors": "[] 0", "FactorsLength": "0 0", "WordOfFactors": " 0", "IsLevel": "true 0", "LeastRules": "0 0", "ValidFactors": "true 0", "SameFactors": "true 0", "FactorsText": " 0"}
	for _, f := range allMakerCalls() {
		text := want[f.name]
		if text == "" {
			text = "{[]} 0"
		}
		for _, x := range []makerArgs{{}, bare, {list: bare.list}, {other: bare.other}} {
			is(t, f.name+" of nothing", text, f.call(x)...)
		}
	}
}

// TestPromise1MakersInvalid checks that an argument that is not valid comes ahead of all other errors.
func TestPromise1MakersInvalid(t *testing.T) {
	check := func(takes string, x makerArgs) {
		t.Helper()
		for _, f := range makerCalls() {
			if f.takes == takes {
				failsWith(t, f.name+" of an invalid argument", f.call(x), impl.ErrInvalid)
			}
		}
	}
	for _, bad := range append(invalidWords(), strings.Repeat("ab", 1001), mixedWord("abcd", 3000, 1), "abcdabcde", "aaaaaaaa ", mixedWord("abcd", 1999, 1)+"e") {
		check("w", makerArgs{w: bad})
	}
	for _, bad := range invalidGrammars() {
		check("g", makerArgs{g: bad})
	}
	for _, bad := range invalidFactors() {
		check("f", makerArgs{list: bad})
	}
	// Words that are too long, or that need too many rules, of factors that are not valid.
	for _, long := range manyFactors() {
		n := factoredLength(long)
		for _, f := range []impl.Factor{lone("e"), lone(""), again(n, 1), again(0, n+1), again(-1, 1), {Letter: "a", Length: 1}} {
			check("f", makerArgs{list: append(slices.Clone(long), f)})
		}
	}
}
