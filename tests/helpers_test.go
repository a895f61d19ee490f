package tests

import (
	"fmt"
	"math"
	"os"
	"runtime/debug"
	"strings"
	"testing"
	"time"

	"loop.example/g01133/impl"
)

// least and greatest are the ends of all numbers that a function can be given.
const (
	least    = math.MinInt64
	greatest = math.MaxInt64
)

// TestMain lets more garbage gather than is usual, because most of what the tests use is garbage soon.
func TestMain(m *testing.M) {
	debug.SetGCPercent(400)
	os.Exit(m.Run())
}

// is holds the results of a call, printed one behind the other, against what they should be.
func is(t *testing.T, name, want string, results ...any) {
	t.Helper()
	if got := strings.TrimSuffix(fmt.Sprintln(results...), "\n"); got != want {
		t.Errorf("%s: got %s, want %s", name, got, want)
	}
}

// inSeconds makes a call of a function, which has to return within a few seconds, with zero results beside an error.
func inSeconds(t *testing.T, name string, call func() []any) []any {
	t.Helper()
	start := time.Now()
	results := call()
	if passed := time.Since(start); passed > 5*time.Second {
		t.Errorf("%s has taken %v", name, passed)
	}
	if code := codeOf(results); code != impl.OK {
		failsWith(t, name, results, code)
	}
	return results
}

// wordsUpTo returns all words of some letters that have at most so many of them.
func wordsUpTo(letters string, length int) []string {
	words := []string{""}
	last := words
	for range length {
		var longer []string
		for _, word := range last {
			for _, letter := range letters {
				longer = append(longer, word+string(letter))
			}
		}
		words = append(words, longer...)
		last = longer
	}
	return words
}

// mixedWord returns a word without an evident order, always the same for the same arguments.
func mixedWord(letters string, length int, seed uint32) string {
	var word strings.Builder
	for range length {
		seed = seed*1664525 + 1013904223
		word.WriteByte(letters[int(seed>>16)%len(letters)])
	}
	return word.String()
}

// longWords returns words of MaxPlain letters, or nearly as many, of different kinds.
func longWords() []string {
	first, second := "ab", "a"
	for len(first) < impl.MaxPlain {
		first, second = first+second, first
	}
	return []string{
		strings.Repeat("a", impl.MaxPlain),
		strings.Repeat("d", impl.MaxPlain-1) + "a",
		"b" + strings.Repeat("a", impl.MaxPlain-1),
		strings.Repeat("a", impl.MaxPlain/2) + "b" + strings.Repeat("a", impl.MaxPlain/2-1),
		strings.Repeat("ab", impl.MaxPlain/2),
		strings.Repeat("abcd", impl.MaxPlain/4-1) + "abc",
		strings.Repeat(mixedWord("abcd", 125, 7), 16),
		first[:impl.MaxPlain],
		mixedWord("ab", impl.MaxPlain, 1),
		mixedWord("abcd", impl.MaxPlain, 2),
	}
}

// shortWords returns all words that are short enough for it.
func shortWords() []string {
	return append(wordsUpTo("ab", 9), wordsUpTo("abcd", 4)...)
}

// invalidWords returns texts that are not plain words, for different reasons.
func invalidWords() []string {
	return []string{
		"e", "A", " ", "`", "abe", "eab", "aeb", "ab\n", "a b", "\x00", "ä", "\xff", "a\xffb",
		strings.Repeat("a", impl.MaxPlain+1),
		strings.Repeat("abcd", 250000),
		strings.Repeat("\xff", 1000000),
	}
}

// run returns a run, right or not.
func run(letter string, count int64) impl.Run {
	return impl.Run{Letter: letter, Count: count}
}
