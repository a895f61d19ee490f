package tests

import (
	"fmt"
	"slices"
	"strings"
	"testing"

	"loop.example/g01133/impl"
)

// answersOf tells what functions of the chapters 2 to 6 say of the word of a grammar: none of it is about its rules.
func answersOf(g impl.Grammar, p string) string {
	var said strings.Builder
	say := func(results ...any) { fmt.Fprintln(&said, results...) }
	n, code := impl.LengthOf(g)
	say(n, code)
	say(list(impl.LetterCounts(g))...)
	say(list(impl.PairCounts(g))...)
	say(list(impl.RunCount(g))...)
	say(list(impl.LongestRuns(g))...)
	say(list(impl.IsPalindromic(g))...)
	say(list(impl.RootPower(g))...)
	say(list(impl.FirstUnlike(g))...)
	say(list(impl.InversionCount(g, 999999937))...)
	say(list(impl.PrintOf(g, 31, 999999937))...)
	say(list(impl.ClimbOf(g, []int64{3, -2, 1, -4}))...)
	say(list(impl.FirstBelow(g, []int64{1, -1, 2, -2}, -1))...)
	say(list(impl.IsBalanced(g, "a", "b"))...)
	say(list(impl.CountPattern(g, p))...)
	say(list(impl.NextPattern(g, p, n/3))...)
	say(list(impl.PatternAt(g, p, 1))...)
	say(list(impl.ScatteredCount(g, p, 999999937))...)
	say(list(impl.ScatteredParts(g, p, 97))...)
	say(list(impl.EmbedFirst(g, p))...)
	say(list(impl.EmbedLast(g, p))...)
	say(list(impl.SparePower(g, p))...)
	say(list(impl.VisitCounts(mixedAuto(5, 9), g))...)
	say(list(impl.CountAccepted(mixedAuto(7, 4), g))...)
	for _, i := range []int64{0, 1, n / 4, n / 2, n - 1} {
		say(list(impl.LetterAt(g, i))...)
		say(list(impl.CommonFrom(g, i, n/2))...)
		say(list(impl.UnpackPart(g, i, i+3))...)
		say(list(impl.RankOf(g, "a", i))...)
		say(list(impl.SelectOf(g, "b", i/5))...)
		say(list(impl.HasPeriod(g, i))...)
	}
	return said.String()
}

// sayTheSame checks that grammars of a word say the same of it, and are edited alike.
func sayTheSame(t *testing.T, name string, grammars []impl.Grammar, k int) {
	t.Helper()
	first := grammars[0]
	n, _ := impl.LengthOf(first)
	pattern := []string{"ab", "a", "ba", "bb", "abc", "dc", "aab"}[k%7]
	want := answersOf(first, pattern)
	next := mixing(uint32(k)*31 + 7)
	e := mixedEdit(n, next)
	for e.I > n || e.J > n || e.K > n {
		e = mixedEdit(n, next)
	}
	edited, refused := impl.ApplyEdit(first, e)
	for l, g := range grammars {
		one := fmt.Sprint(name, ", the grammar ", l)
		is(t, "what is told of "+one, want, answersOf(g, pattern))
		equal, code := impl.EqualWords(first, g)
		saysWhether(t, "EqualWords of "+one, equal, code, true)
		order, code := impl.CompareGrammars(g, first)
		says(t, "CompareGrammars of "+one, order, code, 0)
		at, code := impl.FirstDifference(g, grammars[(l+1)%len(grammars)])
		failsWith(t, "FirstDifference of "+one, list(at, code), impl.ErrNotFound)
		difference, code := impl.DifferenceEdits(g, first)
		sameEdits(t, "DifferenceEdits of "+one, difference, code, nil)
		made, code := impl.ApplyEdit(g, e)
		if code == impl.OK && refused == impl.OK {
			sameWords(t, nameOf(e)+" of "+one, made, edited)
			inverse, code := impl.InverseEdits(g, e)
			is(t, "the code of InverseEdits", "0", code)
			sameWords(t, "the same that is undone", editAll(t, edited, inverse), first)
		}
	}
}

// putAndSpread returns deeds, and behind them those that put a word under a name and spread it.
func putAndSpread(d impl.Depot, before []impl.Deed, name, word int64) ([]impl.Deed, int64) {
	all := append(slices.Clone(before), deed(impl.DdPut, name, word, 0))
	if _, done, code := impl.StoreAfter(d, all); code != impl.OK || done < int64(len(all)) {
		return nil, impl.ErrLimit
	}
	plan, code := impl.SpreadDeeds(d, all, name)
	return append(all, plan...), code
}

// comeToAll checks that grammars of a word come to all servers: several at once under several names, and one after the other under one.
func comeToAll(t *testing.T, name string, grammars []impl.Grammar, k int) int {
	t.Helper()
	spread := 0
	for start := 0; start < len(grammars); start += impl.MaxWords {
		words := grammars[start:min(start+impl.MaxWords, len(grammars))]
		d := depot(int64(2+k%3), int64(1+k%4), words...)
		var all []impl.Deed
		for l := range words {
			under := int64(l) % d.Names
			more, code := putAndSpread(d, all, under, int64(l))
			if code != impl.OK {
				// There is no room behind the others: it begins anew.
				more, code = putAndSpread(d, nil, under, int64(l))
			}
			if code != impl.OK {
				is(t, "the code of SpreadDeeds", "3", code)
				continue
			}
			all = more
			g := readAlike(t, d, all, under)
			sameWords(t, name+" at all servers", g, grammars[0])
			sameGrammar(t, name+", trimmed", g, impl.OK, trimmed(g))
			spread++
		}
	}
	return spread
}

func TestPromise21PlainWords(t *testing.T) {
	words := slices.Concat(wordsUpTo("ab", 4), wordsUpTo("abcd", 2), makerWords()[:12], makerWords()[150:156])
	for k, w := range words {
		w = w[:min(len(w), 60)]
		grammars := grammarsMade(t, w)
		if len(w) > 0 && k%3 == 0 {
			grammars = append(grammars, cutAndJoined(t, grammars[0], int64(len(w))/2), cutAndJoined(t, grammars[1], 1))
		}
		for _, g := range grammars {
			is(t, "the word", w, wordOf(g))
		}
		sayTheSame(t, w, grammars, k)
		if comeToAll(t, w, grammars, k) == 0 {
			t.Errorf("no grammar of %s comes to all servers", w)
		}
	}
}

func TestPromise21LongWords(t *testing.T) {
	spread := 0
	for k, w := range append(hugeWords(), shorterWords()[14:18]...) {
		grammars := grammarsOf(t, w)
		for _, g := range grammars[:len(grammars):len(grammars)] {
			if level, code := impl.LevelGrammar(g); code == impl.OK {
				grammars = append(grammars, level)
			}
		}
		sayTheSame(t, fmt.Sprint(w), grammars, k)
		spread += comeToAll(t, fmt.Sprint(w), grammars, k)
	}
	if spread < 100 {
		t.Errorf("only %d grammars come to all servers", spread)
	}
}

// TestPromise21OtherMakers makes long words of factors, of runs and of codes, and holds them against each other.
func TestPromise21OtherMakers(t *testing.T) {
	same := impl.Coder{States: 1, Next: [][]int64{{0, 0, 0, 0}}, Out: [][]string{{"a", "b", "c", "d"}}}
	for k, found := range longFactors() {
		g, code := impl.FactorsGrammar(found)
		g = must(t, g, code)
		turned, code := impl.TurnGrammar(g)
		back, same2 := impl.TurnGrammar(must(t, turned, code))
		coded, same3 := impl.CodeGrammar(same, g)
		n, _ := impl.LengthOf(g)
		grammars := []impl.Grammar{g, must(t, back, same2), must(t, coded, same3), cutAndJoined(t, g, n/2)}
		if level, code := impl.LevelGrammar(g); code == impl.OK {
			grammars = append(grammars, level)
		}
		sayTheSame(t, factorLines(found), grammars, k)
		comeToAll(t, factorLines(found), grammars, k)
	}
	for k, runs := range [][]impl.Run{{run("a", 700), run("b", 1), run("a", 700)}, {run("d", 2000)}, {run("c", 1), run("b", 999), run("d", 1000)}, {run("a", 1), run("b", 2), run("c", 3), run("d", 4)}} {
		w, code := impl.WordOfRuns(runs)
		is(t, "the code of WordOfRuns", "0", code)
		var grammars []impl.Grammar
		for _, m := range plainMakers() {
			g, code := m.make(w)
			if code == impl.OK {
				grammars = append(grammars, g)
			}
		}
		sayTheSame(t, w[:9], grammars, k)
		comeToAll(t, w[:9], grammars, k)
	}
}
