package tests

import (
	"fmt"
	"slices"
	"strings"
	"testing"

	"loop.example/g01133/impl"
)

// grammarCall is a call of a function of chapter 2, which returns its results, the code last if there is one.
type grammarCall struct {
	name string
	call func(g, h impl.Grammar, i, j int64, words []string) []any
}

// grammarCalls returns calls of all functions that are given a grammar and return a code.
func grammarCalls() []grammarCall {
	type grammar = impl.Grammar
	return []grammarCall{
		{"LengthOf", func(g, h grammar, i, j int64, words []string) []any { a, e := impl.LengthOf(g); return list(a, e) }},
		{"LengthsOf", func(g, h grammar, i, j int64, words []string) []any { a, e := impl.LengthsOf(g); return list(a, e) }},
		{"DepthOf", func(g, h grammar, i, j int64, words []string) []any { a, e := impl.DepthOf(g); return list(a, e) }},
		{"LetterAt", func(g, h grammar, i, j int64, words []string) []any { a, e := impl.LetterAt(g, i); return list(a, e) }},
		{"UnpackPart", func(g, h grammar, i, j int64, words []string) []any {
			a, e := impl.UnpackPart(g, i, j)
			return list(a, e)
		}},
		{"UnpackWord", func(g, h grammar, i, j int64, words []string) []any { a, e := impl.UnpackWord(g); return list(a, e) }},
		{"JoinGrammars", func(g, h grammar, i, j int64, words []string) []any {
			a, e := impl.JoinGrammars(g, h)
			return list(a, e)
		}},
		{"PowerGrammar", func(g, h grammar, i, j int64, words []string) []any {
			a, e := impl.PowerGrammar(g, i)
			return list(a, e)
		}},
		{"TurnGrammar", func(g, h grammar, i, j int64, words []string) []any { a, e := impl.TurnGrammar(g); return list(a, e) }},
		{"PartGrammar", func(g, h grammar, i, j int64, words []string) []any {
			a, e := impl.PartGrammar(g, i, j)
			return list(a, e)
		}},
		{"MapLetters", func(g, h grammar, i, j int64, words []string) []any {
			a, e := impl.MapLetters(g, words)
			return list(a, e)
		}},
		{"TrimGrammar", func(g, h grammar, i, j int64, words []string) []any { a, e := impl.TrimGrammar(g); return list(a, e) }},
		{"UsesOf", func(g, h grammar, i, j int64, words []string) []any { a, e := impl.UsesOf(g); return list(a, e) }},
		{"LetterCounts", func(g, h grammar, i, j int64, words []string) []any { a, e := impl.LetterCounts(g); return list(a, e) }},
	}
}

// otherGrammarCalls returns calls of the other functions of chapter 2.
func otherGrammarCalls() []grammarCall {
	type grammar = impl.Grammar
	return []grammarCall{
		{"ValidGrammar", func(g, h grammar, i, j int64, words []string) []any { return list(impl.ValidGrammar(g)) }},
		{"SameGrammar", func(g, h grammar, i, j int64, words []string) []any { return list(impl.SameGrammar(g, h)) }},
		{"GrammarText", func(g, h grammar, i, j int64, words []string) []any { return list(impl.GrammarText(g)) }},
		{"ReadGrammar", func(g, h grammar, i, j int64, words []string) []any {
			a, e := impl.ReadGrammar(impl.GrammarText(g))
			return list(a, e)
		}},
		{"PlainGrammar", func(g, h grammar, i, j int64, words []string) []any {
			a, e := impl.PlainGrammar(strings.Join(words, ""))
			return list(a, e)
		}},
	}
}

// codeOf returns the code at the end of results.
func codeOf(results []any) int64 {
	return results[len(results)-1].(int64)
}

// spoilAll overwrites all slices of results, those of grammars, too.
func spoilAll(results []any) {
	for _, result := range results {
		if g, ok := result.(impl.Grammar); ok {
			spoil(g.Rules)
		}
		spoil(result)
	}
}

// someNumbers are places and times of all kinds.
func someNumbers() []int64 {
	return []int64{least, -1, 0, 1, 2, 3, 5, 1999, 2000, 2001, 1 << 32, impl.MaxLength / 2, impl.MaxLength - 1, impl.MaxLength, impl.MaxLength + 1, greatest - 1, greatest}
}

// someWords are lists of words for MapLetters, right or not.
func someWords() [][]string {
	long := longWords()
	return [][]string{
		{"b", "a", "d", "c"}, {"", "", "", ""}, {"a", "", "abaab", ""}, long[:4],
		nil, {}, {"a", "b", "c"}, {"a", "b", "c", "d", "a"}, {"a", "b", "c", "e"}, {long[0] + "a", "", "", ""}, make([]string, 1000000),
	}
}

// TestPromise1GrammarsReturn gives every function arguments of all kinds, as large as they may be.
func TestPromise1GrammarsReturn(t *testing.T) {
	grammars := slices.Concat(longGrammars(), invalidGrammars(), smallGrammars(2))
	numbers, words := someNumbers(), someWords()
	for _, f := range append(grammarCalls(), otherGrammarCalls()...) {
		for k, g := range grammars {
			for n, i := range numbers {
				results := f.call(g, grammars[(k*5+n)%len(grammars)], i, numbers[(n*3+k)%len(numbers)], words[(n+k)%len(words)])
				if code, ok := results[len(results)-1].(int64); ok && code != impl.OK {
					failsWith(t, f.name, results, code)
				}
			}
		}
	}
	for _, text := range []string{strings.Repeat("a\n", 500000), strings.Repeat("0 0\n", 5000), strings.Repeat("\xff", 1000000), strings.Repeat(" ", 20000)} {
		g, code := impl.ReadGrammar(text)
		if code == impl.OK || len(g.Rules) > 0 {
			t.Errorf("ReadGrammar of %.20q: got the code %d", text, code)
		}
	}
}

// TestPromise1GrammarsRepeat calls every function twice, the first results being overwritten in between,
// and checks that arguments stay as they are, and what is behind them in memory.
func TestPromise1GrammarsRepeat(t *testing.T) {
	grammars := slices.Concat(smallGrammars(3), mixedGrammars(20, 100), longGrammars(), invalidGrammars()[:26], []impl.Grammar{gram(example)})
	words := []string{"b", "aa", "", "dc"}
	for _, f := range append(grammarCalls(), otherGrammarCalls()...) {
		for k, g := range grammars {
			h := grammars[(k*7+1)%len(grammars)]
			one, two := withSpare(g), withSpare(h)
			mapped := append(append(make([]string, 0, 9), words...), "spare")
			call := func() []any {
				return f.call(impl.Grammar{Rules: one[:len(g.Rules)]}, impl.Grammar{Rules: two[:len(h.Rules)]}, int64(k%4), int64(k%9), mapped[:4])
			}
			first := call()
			want := fmt.Sprintf("%#v", first)
			spoilAll(first)
			if got := fmt.Sprintf("%#v", call()); got != want {
				t.Errorf("%s: got %.200s for the second time, and %.200s at first", f.name, got, want)
			}
			hasSpare(t, f.name, one, g)
			hasSpare(t, f.name, two, h)
			if !slices.Equal(mapped[:9], append(slices.Clone(words), "spare", "", "", "", "")) {
				t.Errorf("%s has changed the words to %q", f.name, mapped[:9])
			}
		}
	}
}

// TestPromise1GrammarsNil checks that a grammar without rules is the same whether its rules are nil or not.
func TestPromise1GrammarsNil(t *testing.T) {
	none, bare := impl.Grammar{}, impl.Grammar{Rules: []impl.Rule{}}
	for _, f := range append(grammarCalls(), otherGrammarCalls()...) {
		for _, i := range []int64{-1, 0, 1} {
			one := f.call(none, none, i, 0, []string{"", "", "", ""})
			two := f.call(bare, bare, i, 0, []string{"", "", "", ""})
			if fmt.Sprint(one...) != fmt.Sprint(two...) {
				t.Errorf("%s: got %v and %v", f.name, one, two)
			}
		}
	}
}

// TestPromise1GrammarsInvalid checks that a grammar that is not valid comes ahead of all other errors.
func TestPromise1GrammarsInvalid(t *testing.T) {
	fine := gram(example)
	for _, bad := range invalidGrammars() {
		for _, f := range grammarCalls() {
			for _, i := range []int64{least, -1, 0, 1, 1 << 40, greatest} {
				failsWith(t, f.name+" of an invalid grammar", f.call(bad, fine, i, 0, []string{"a", "b", "c", "d"}), impl.ErrInvalid)
				failsWith(t, f.name+" of an invalid grammar", f.call(bad, impl.Grammar{}, 0, i, nil), impl.ErrInvalid)
			}
			if f.name == "JoinGrammars" {
				for _, g := range []impl.Grammar{fine, {}, chain(400), fullGrammar()} {
					failsWith(t, "JoinGrammars with an invalid grammar", f.call(g, bad, 0, 0, nil), impl.ErrInvalid)
				}
			}
		}
	}
	for _, bad := range invalidWords() {
		g, code := impl.PlainGrammar(bad)
		failsWith(t, "PlainGrammar of an invalid word", list(g, code), impl.ErrInvalid)
		for place := range 4 {
			words := slices.Repeat([]string{strings.Repeat("a", 2000)}, 4)
			words[place] = bad
			for _, g := range []impl.Grammar{fine, {}, gram("a\n"), fullGrammar()} {
				made, code := impl.MapLetters(g, words)
				failsWith(t, "MapLetters with an invalid word", list(made, code), impl.ErrInvalid)
			}
		}
	}
	for _, words := range someWords()[4:] {
		for _, g := range []impl.Grammar{fine, {}, chain(400)} {
			made, code := impl.MapLetters(g, words)
			failsWith(t, "MapLetters with words that are not four", list(made, code), impl.ErrInvalid)
		}
	}
}

// TestPromise1GrammarsErrorOrder checks which of two errors comes first.
func TestPromise1GrammarsErrorOrder(t *testing.T) {
	full, many := fullGrammar(), chain(400)
	p, code := impl.UnpackPart(full, 0, impl.MaxLength+1)
	failsWith(t, "a part that is too long and none", list(p, code), impl.ErrRange)
	p, code = impl.UnpackPart(full, impl.MaxLength, 0)
	failsWith(t, "a part from the end to the beginning", list(p, code), impl.ErrRange)
	p, code = impl.UnpackPart(full, 1, impl.MaxLength)
	failsWith(t, "a part that is too long", list(p, code), impl.ErrLimit)
	g, code := impl.PowerGrammar(many, impl.MaxLength+1)
	failsWith(t, "a power with too many rules and times", list(g, code), impl.ErrRange)
	g, code = impl.PowerGrammar(impl.Grammar{}, -1)
	failsWith(t, "a negative power of nothing", list(g, code), impl.ErrRange)
	g, code = impl.PowerGrammar(many, 5)
	failsWith(t, "a power with too many rules", list(g, code), impl.ErrLimit)
	for _, n := range []int64{0, 1} {
		x, code := impl.LetterAt(impl.Grammar{}, n)
		failsWith(t, "a letter of nothing", list(x, code), impl.ErrRange)
		g, code = impl.PartGrammar(impl.Grammar{}, n, 1)
		failsWith(t, "a part of nothing", list(g, code), impl.ErrRange)
	}
	g, code = impl.PartGrammar(impl.Grammar{}, 0, 0)
	sameGrammar(t, "the empty part of nothing", g, code, impl.Grammar{})
}

// TestPromise1GrammarsTakeAll checks that all functions take grammars at their limits.
func TestPromise1GrammarsTakeAll(t *testing.T) {
	for _, g := range longGrammars() {
		for _, f := range grammarCalls() {
			results := f.call(g, impl.Grammar{}, 0, 1, []string{"a", "b", "c", "d"})
			if code := codeOf(results); code != impl.OK && !(f.name == "UnpackWord" && code == impl.ErrLimit) {
				t.Errorf("%s: got the code %d for %.40q", f.name, code, textOf(g))
			}
		}
	}
}
