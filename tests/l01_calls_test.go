package tests

import (
	"fmt"
	"math"
	"reflect"
	"strings"
	"testing"

	"loop.example/g01133/impl"
)

// wordCall is a call of a function of chapter 1, which returns its results, the code last.
type wordCall struct {
	name  string
	takes string // "w" for words, "uw" for two of them, "n" for a number alone, "r" for runs
	call  func(u, w string, n int64, runs []impl.Run) []any
}

func list(results ...any) []any { return results }

func wordCalls() []wordCall {
	return []wordCall{
		{"TurnWord", "w", func(u, w string, n int64, runs []impl.Run) []any { a, e := impl.TurnWord(w); return list(a, e) }},
		{"PowerWord", "w", func(u, w string, n int64, runs []impl.Run) []any { a, e := impl.PowerWord(w, n); return list(a, e) }},
		{"CommonStart", "uw", func(u, w string, n int64, runs []impl.Run) []any { a, e := impl.CommonStart(u, w); return list(a, e) }},
		{"CompareWords", "uw", func(u, w string, n int64, runs []impl.Run) []any { a, e := impl.CompareWords(u, w); return list(a, e) }},
		{"BordersOf", "w", func(u, w string, n int64, runs []impl.Run) []any { a, e := impl.BordersOf(w); return list(a, e) }},
		{"PeriodsOf", "w", func(u, w string, n int64, runs []impl.Run) []any { a, e := impl.PeriodsOf(w); return list(a, e) }},
		{"RootOf", "w", func(u, w string, n int64, runs []impl.Run) []any { a, b, e := impl.RootOf(w); return list(a, b, e) }},
		{"IsPalindrome", "w", func(u, w string, n int64, runs []impl.Run) []any { a, e := impl.IsPalindrome(w); return list(a, e) }},
		{"OccurrencesOf", "uw", func(u, w string, n int64, runs []impl.Run) []any { a, e := impl.OccurrencesOf(u, w); return list(a, e) }},
		{"FactorCount", "w", func(u, w string, n int64, runs []impl.Run) []any { a, e := impl.FactorCount(w, n); return list(a, e) }},
		{"RunsOf", "w", func(u, w string, n int64, runs []impl.Run) []any { a, e := impl.RunsOf(w); return list(a, e) }},
		{"WordOfRuns", "r", func(u, w string, n int64, runs []impl.Run) []any { a, e := impl.WordOfRuns(runs); return list(a, e) }},
		{"LyndonFactors", "w", func(u, w string, n int64, runs []impl.Run) []any { a, e := impl.LyndonFactors(w); return list(a, e) }},
		{"LeastShift", "w", func(u, w string, n int64, runs []impl.Run) []any { a, e := impl.LeastShift(w); return list(a, e) }},
		{"ShiftTo", "uw", func(u, w string, n int64, runs []impl.Run) []any { a, e := impl.ShiftTo(u, w); return list(a, e) }},
		{"FibonacciWord", "n", func(u, w string, n int64, runs []impl.Run) []any { a, e := impl.FibonacciWord(n); return list(a, e) }},
		{"ThueWord", "n", func(u, w string, n int64, runs []impl.Run) []any { a, e := impl.ThueWord(n); return list(a, e) }},
	}
}

// failsWith checks that results have this code, and are zero otherwise.
func failsWith(t *testing.T, name string, results []any, code int64) {
	t.Helper()
	last := len(results) - 1
	if results[last] != code {
		t.Errorf("%s: got the code %v, want %d", name, results[last], code)
	}
	for _, result := range results[:last] {
		if v := reflect.ValueOf(result); !v.IsZero() && (v.Kind() != reflect.Slice || v.Len() > 0) {
			t.Errorf("%s: got the result %v beside the code %d", name, result, code)
		}
	}
}

// spoil overwrites all elements of a slice, and what it could still grow to.
func spoil(result any) {
	if v := reflect.ValueOf(result); v.Kind() == reflect.Slice {
		v = v.Slice(0, v.Cap())
		for i := range v.Len() {
			v.Index(i).SetZero()
		}
	}
}

// TestPromise1WordsReturn gives every function arguments of all kinds, as large as they may be.
func TestPromise1WordsReturn(t *testing.T) {
	numbers := []int64{least, -1, 0, 1, 2, 10, 11, 16, 17, 20, 21, 1999, 2000, 2001, math.MaxInt32, math.MaxUint32 + 1, greatest}
	words := append(append(longWords(), invalidWords()...), "", "a", "abaab")
	many := make([]impl.Run, 1000000/3)
	for i := range many {
		many[i] = impl.Run{Letter: "abcd"[i%4 : i%4+1], Count: greatest}
	}
	runs := [][]impl.Run{nil, {}, {{}}, many, {run("a", least)}, {run("e", greatest)}}
	for _, f := range wordCalls() {
		for i, w := range words {
			n, r := numbers[i%len(numbers)], runs[i%len(runs)]
			results := f.call(words[(i*7+3)%len(words)], w, n, r)
			if code := results[len(results)-1].(int64); code != impl.OK {
				failsWith(t, f.name, results, code)
			}
		}
		for i, n := range numbers {
			results := f.call("", words[i%len(words)], n, nil)
			if code := results[len(results)-1].(int64); code != impl.OK {
				failsWith(t, f.name, results, code)
			}
		}
	}
}

// TestPromise1WordsRepeat calls every function twice, the first results being overwritten in between.
func TestPromise1WordsRepeat(t *testing.T) {
	runs := []impl.Run{run("a", 2), run("b", 1), run("d", 3)}
	words := append(longWords(), wordsUpTo("abc", 4)...)
	for _, f := range wordCalls() {
		for i, w := range words {
			u, n := words[len(words)-1-i], int64(i%12)
			first := f.call(u, w, n, runs)
			want := fmt.Sprintf("%#v", first)
			for _, result := range first {
				spoil(result)
			}
			if got := fmt.Sprintf("%#v", f.call(u, w, n, runs)); got != want {
				t.Errorf("%s: got %s for the second time, and %s at first", f.name, got, want)
			}
		}
	}
}

// TestPromise1WordsKeepArguments checks that runs stay as they are, and what is behind them in memory.
func TestPromise1WordsKeepArguments(t *testing.T) {
	spare := impl.Run{Letter: "spare", Count: -7}
	for _, want := range [][]impl.Run{
		{run("a", 2), run("b", 1)},
		{run("a", 2000), run("b", 1)},
		{run("a", 2), run("a", 3)},
		{run("a", 2), run("b", 0)},
		{run("a", 2), run("x", 1)},
		{},
	} {
		given := append(append(make([]impl.Run, 0, 10), want...), spare, spare)
		impl.WordOfRuns(given[:len(want)])
		if !reflect.DeepEqual(given, append(append([]impl.Run{}, want...), spare, spare)) {
			t.Errorf("the runs %v became %v", want, given)
		}
	}
}

// TestPromise1WordsInvalid checks that a word that is not plain comes ahead of all other errors.
func TestPromise1WordsInvalid(t *testing.T) {
	for _, bad := range invalidWords() {
		if impl.ValidWord(bad) {
			t.Errorf("%.20q is a plain word", bad)
		}
		for _, f := range wordCalls() {
			for _, n := range []int64{least, -1, 0, 3, greatest} {
				if f.takes == "w" || f.takes == "uw" {
					failsWith(t, f.name+" of an invalid word", f.call("ab", bad, n, nil), impl.ErrInvalid)
					failsWith(t, f.name+" of an invalid word", f.call("", bad, n, nil), impl.ErrInvalid)
				}
				if f.takes == "uw" {
					failsWith(t, f.name+" of an invalid first word", f.call(bad, "ab", n, nil), impl.ErrInvalid)
					failsWith(t, f.name+" of an invalid first word", f.call(bad, "", n, nil), impl.ErrInvalid)
				}
			}
		}
	}
}

// TestPromise1WordsLong checks that words of MaxPlain letters are plain, and are taken by all functions.
func TestPromise1WordsLong(t *testing.T) {
	for _, w := range longWords() {
		if !impl.ValidWord(w) || impl.ValidWord(w[:1]+strings.Repeat(w, 2)) {
			t.Errorf("a word of %d letters is not told from a longer one", len(w))
		}
		for _, f := range wordCalls() {
			results := f.call(w, w, 1, []impl.Run{run("c", impl.MaxPlain)})
			if results[len(results)-1] != int64(impl.OK) {
				t.Errorf("%s: got the code %v for a long word", f.name, results[len(results)-1])
			}
		}
	}
}
