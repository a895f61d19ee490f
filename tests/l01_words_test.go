package tests

import (
	"fmt"
	"reflect"
	"slices"
	"strings"
	"testing"

	"loop.example/g01133/impl"
)

// same checks a list, for which nil and the empty one are equivalent.
func same[T any](t *testing.T, name string, got []T, code int64, want []T) {
	t.Helper()
	if code != impl.OK || len(got) != len(want) || len(got) > 0 && !reflect.DeepEqual(got, want) {
		t.Errorf("%s: got %v and the code %d, want %v", name, got, code, want)
	}
}

func TestExampleOfChapter1(t *testing.T) {
	borders, one := impl.BordersOf("abaab")
	periods, two := impl.PeriodsOf("abaab")
	fibonacci, three := impl.FibonacciWord(4)
	factors, four := impl.LyndonFactors("abaab")
	shift, five := impl.LeastShift("abaab")
	thue, six := impl.ThueWord(3)
	is(t, "the example", "[2] 0 [3 5] 0 abaab 0 [ab aab] 0 2 0 abbabaab 0",
		borders, one, periods, two, fibonacci, three, factors, four, shift, five, thue, six)
}

func TestPromise1CodeNames(t *testing.T) {
	is(t, "codes", "0 1 2 3 4 5 6 7 8", impl.OK, impl.ErrInvalid, impl.ErrRange, impl.ErrLimit, impl.ErrState,
		impl.ErrSyntax, impl.ErrNotFound, impl.ErrBudget, impl.ErrProof)
	is(t, "limits", "2000 20", impl.MaxPlain, impl.MaxIndex)
	names := strings.Fields("ok invalid range limit state syntax notfound budget proof")
	for code, name := range names {
		if got := impl.CodeName(int64(code)); got != name {
			t.Errorf("the code %d has the name %q, want %q", code, got, name)
		}
	}
	for _, code := range []int64{least, -256, -1, 9, 10, 256, 1 << 32, greatest} {
		if got := impl.CodeName(code); got != "" {
			t.Errorf("the code %d has the name %q", code, got)
		}
	}
}

func TestPromise2PlainWords(t *testing.T) {
	for _, w := range append(shortWords(), longWords()...) {
		if !impl.ValidWord(w) {
			t.Errorf("%.20q is not a plain word", w)
		}
	}
	for c := range 256 {
		letter := string([]byte{byte(c)})
		if want := c >= 'a' && c <= 'd'; impl.ValidWord(letter) != want {
			t.Errorf("ValidWord of the byte %d is not %v", c, want)
		}
	}
	is(t, "lengths", "true true false", impl.ValidWord(""), impl.ValidWord(strings.Repeat("d", 2000)), impl.ValidWord(strings.Repeat("d", 2001)))
}

func TestPromise2Turns(t *testing.T) {
	for _, w := range append(shortWords(), longWords()...) {
		u, code := impl.TurnWord(w)
		for i := range len(w) {
			if len(u) != len(w) || u[i] != w[len(w)-1-i] {
				t.Fatalf("%.20q is turned to %.20q", w, u)
			}
		}
		back, _ := impl.TurnWord(u)
		yes, other := impl.IsPalindrome(w)
		if code != impl.OK || other != impl.OK || back != w || yes != (u == w) {
			t.Errorf("%.20q: turned twice %.20q, palindrome %v, codes %d %d", w, back, yes, code, other)
		}
	}
	for w, want := range map[string]bool{"": true, "a": true, "aa": true, "ab": false, "aba": true, "abba": true, "abca": false, "abaab": false} {
		yes, code := impl.IsPalindrome(w)
		is(t, "palindrome "+w, fmt.Sprint(want, " 0"), yes, code)
	}
}

func TestPromise2Powers(t *testing.T) {
	for _, w := range append(wordsUpTo("ab", 4), longWords()...) {
		want := ""
		for times := range int64(8) {
			got, code := impl.PowerWord(w, times)
			if len(want) > impl.MaxPlain {
				failsWith(t, "PowerWord", list(got, code), impl.ErrLimit)
			} else if got != want || code != impl.OK {
				t.Errorf("%.20q %d times: got %.20q and the code %d", w, times, got, code)
			}
			want += w
		}
	}
	cases := []struct {
		w     string
		times int64
		code  int64
	}{
		{"", -1, impl.ErrRange},
		{"", least, impl.ErrRange},
		{"", 0, impl.OK},
		{"", greatest, impl.OK},
		{"a", -1, impl.ErrRange},
		{"a", least, impl.ErrRange},
		{"a", 0, impl.OK},
		{"a", 2000, impl.OK},
		{"a", 2001, impl.ErrLimit},
		{"a", greatest, impl.ErrLimit},
		{"abc", 666, impl.OK},
		{"abc", 667, impl.ErrLimit},
		{"ab", 1000, impl.OK},
		{"ab", 1001, impl.ErrLimit},
		{"ab", 1 << 62, impl.ErrLimit},
		{"abcd", 1 << 62, impl.ErrLimit},
		{"abcd", 1<<32 + 1, impl.ErrLimit},
		{longWords()[0], 1, impl.OK},
		{longWords()[0], 2, impl.ErrLimit},
		{longWords()[0], 0, impl.OK},
		{longWords()[0], -1, impl.ErrRange},
	}
	for _, c := range cases {
		got, code := impl.PowerWord(c.w, c.times)
		name := fmt.Sprintf("PowerWord of %.10q and %d", c.w, c.times)
		if c.code != impl.OK {
			failsWith(t, name, list(got, code), c.code)
		} else if code != impl.OK || len(c.w) > 0 && int64(len(got)) != int64(len(c.w))*c.times || len(c.w) == 0 && got != "" {
			t.Errorf("%s: got %d letters and the code %d", name, len(got), code)
		}
	}
}

func TestPromise2Comparisons(t *testing.T) {
	words := append(wordsUpTo("ab", 4), wordsUpTo("abcd", 2)...)
	words = append(words, longWords()...)
	for _, u := range words {
		for _, w := range words {
			want := 0
			for want < min(len(u), len(w)) && u[:want+1] == w[:want+1] {
				want++
			}
			n, one := impl.CommonStart(u, w)
			is(t, fmt.Sprintf("CommonStart of %.10q and %.10q", u, w), fmt.Sprint(want, " 0"), n, one)
			order := 0
			if u < w {
				order = -1
			} else if u > w {
				order = 1
			}
			c, two := impl.CompareWords(u, w)
			is(t, fmt.Sprintf("CompareWords of %.10q and %.10q", u, w), fmt.Sprint(order, " 0"), c, two)
		}
	}
}

// hasPeriod tells, letter by letter, whether p is a period.
func hasPeriod(w string, p int) bool {
	for i := p; i < len(w); i++ {
		if w[i] != w[i-p] {
			return false
		}
	}
	return true
}

func TestPromise2BordersAndPeriods(t *testing.T) {
	for _, w := range append(shortWords(), longWords()...) {
		var borders, periods []int64
		for n := 1; n <= len(w); n++ {
			if n < len(w) && w[:n] == w[len(w)-n:] {
				borders = append(borders, int64(n))
			}
			if hasPeriod(w, n) {
				periods = append(periods, int64(n))
			}
		}
		got, code := impl.BordersOf(w)
		same(t, fmt.Sprintf("BordersOf %.10q", w), got, code, borders)
		got, code = impl.PeriodsOf(w)
		same(t, fmt.Sprintf("PeriodsOf %.10q", w), got, code, periods)
	}
	borders, one := impl.BordersOf("aaaa")
	periods, two := impl.PeriodsOf("aaaa")
	is(t, "aaaa", "[1 2 3] 0 [1 2 3 4] 0", borders, one, periods, two)
}

func TestPromise2Roots(t *testing.T) {
	for _, w := range append(shortWords()[1:], longWords()...) {
		if w == "" {
			continue
		}
		n := 1
		for len(w)%n != 0 || strings.Repeat(w[:n], len(w)/n) != w {
			n++
		}
		root, times, code := impl.RootOf(w)
		if root != w[:n] || times != int64(len(w)/n) || code != impl.OK {
			t.Errorf("RootOf %.10q: got %.10q, %d and the code %d", w, root, times, code)
		}
	}
	root, times, code := impl.RootOf("")
	failsWith(t, "RootOf the empty word", list(root, times, code), impl.ErrState)
	root, times, code = impl.RootOf("abababa")
	is(t, "RootOf abababa", "abababa 1 0", root, times, code)
}

func TestPromise2Occurrences(t *testing.T) {
	patterns := append(wordsUpTo("ab", 4), longWords()...)
	for _, w := range append(wordsUpTo("abc", 5), longWords()...) {
		for _, p := range patterns {
			got, code := impl.OccurrencesOf(p, w)
			if p == "" {
				failsWith(t, "OccurrencesOf the empty word", list(got, code), impl.ErrState)
				continue
			}
			var want []int64
			for i := 0; i+len(p) <= len(w); i++ {
				if w[i:i+len(p)] == p {
					want = append(want, int64(i))
				}
			}
			same(t, fmt.Sprintf("OccurrencesOf %.10q in %.10q", p, w), got, code, want)
		}
	}
}

func TestPromise2FactorCounts(t *testing.T) {
	for _, w := range shortWords() {
		for n := range len(w) + 1 {
			want := 0
			for i := 0; i+n <= len(w); i++ {
				if strings.Index(w, w[i:i+n]) == i {
					want++
				}
			}
			got, code := impl.FactorCount(w, int64(n))
			is(t, fmt.Sprintf("FactorCount of %q and %d", w, n), fmt.Sprint(want, " 0"), got, code)
		}
		for _, n := range []int64{least, -1, int64(len(w)) + 1, 1 << 32, greatest} {
			got, code := impl.FactorCount(w, n)
			failsWith(t, fmt.Sprintf("FactorCount of %q and %d", w, n), list(got, code), impl.ErrRange)
		}
	}
	full := longWords()[9]
	for n, want := range map[int64]string{0: "1 0", 1: "4 0", 2: "16 0", 1000: "1001 0", 2000: "1 0", 2001: "0 2", -1: "0 2"} {
		got, code := impl.FactorCount(full, n)
		is(t, fmt.Sprint("FactorCount of a long word and ", n), want, got, code)
	}
}

func TestPromise2Runs(t *testing.T) {
	for _, w := range append(shortWords(), longWords()...) {
		runs, code := impl.RunsOf(w)
		built := ""
		for i, run := range runs {
			if run.Count < 1 || len(run.Letter) != 1 || i > 0 && runs[i-1].Letter == run.Letter {
				t.Fatalf("RunsOf %.10q: %v is no list of runs", w, runs)
			}
			built += strings.Repeat(run.Letter, int(run.Count))
		}
		if built != w || code != impl.OK {
			t.Errorf("RunsOf %.10q: got %v and the code %d", w, runs, code)
		}
		back, code := impl.WordOfRuns(runs)
		if back != w || code != impl.OK {
			t.Errorf("WordOfRuns of %v: got %.10q and the code %d", runs, back, code)
		}
	}
	runs, code := impl.RunsOf("aabccca")
	is(t, "runs", "[{a 2} {b 1} {c 3} {a 1}] 0", runs, code)
	runs, code = impl.RunsOf("")
	same(t, "runs of the empty word", runs, code, nil)
}

func TestPromise2WordOfRuns(t *testing.T) {
	cases := []struct {
		runs []impl.Run
		code int64
	}{
		{nil, impl.OK},
		{[]impl.Run{}, impl.OK},
		{[]impl.Run{run("a", 2000)}, impl.OK},
		{[]impl.Run{run("a", 1999), run("d", 1)}, impl.OK},
		{[]impl.Run{run("a", 2001)}, impl.ErrLimit},
		{[]impl.Run{run("a", 1999), run("b", 2)}, impl.ErrLimit},
		{[]impl.Run{run("a", 2000), run("b", 1)}, impl.ErrLimit},
		{[]impl.Run{run("a", greatest)}, impl.ErrLimit},
		{[]impl.Run{run("a", greatest), run("b", greatest), run("c", 2)}, impl.ErrLimit},
		{[]impl.Run{run("a", 2), run("b", greatest)}, impl.ErrLimit},
		{[]impl.Run{run("a", 1<<32)}, impl.ErrLimit},
		{[]impl.Run{run("", 1)}, impl.ErrInvalid},
		{[]impl.Run{run("e", 1)}, impl.ErrInvalid},
		{[]impl.Run{run("ab", 1)}, impl.ErrInvalid},
		{[]impl.Run{run("A", 1)}, impl.ErrInvalid},
		{[]impl.Run{run("`", 1)}, impl.ErrInvalid},
		{[]impl.Run{run("a", 0)}, impl.ErrRange},
		{[]impl.Run{run("a", -1)}, impl.ErrRange},
		{[]impl.Run{run("a", least)}, impl.ErrRange},
		{[]impl.Run{run("a", 1), run("b", 0)}, impl.ErrRange},
		{[]impl.Run{run("a", 1), run("a", 1)}, impl.ErrState},
		{[]impl.Run{run("b", 1), run("a", 1), run("a", 2)}, impl.ErrState},
		{[]impl.Run{run("a", 1), run("b", 1), run("a", 1)}, impl.OK},
		// The first error of several, wherever it stands.
		{[]impl.Run{run("a", 0), run("e", 1)}, impl.ErrInvalid},
		{[]impl.Run{run("a", 1), run("a", 1), run("e", 1)}, impl.ErrInvalid},
		{[]impl.Run{run("a", 2001), run("e", 1)}, impl.ErrInvalid},
		{[]impl.Run{run("e", 0)}, impl.ErrInvalid},
		{[]impl.Run{run("a", 1), run("a", 1), run("b", 0)}, impl.ErrRange},
		{[]impl.Run{run("a", 2001), run("b", -1)}, impl.ErrRange},
		{[]impl.Run{run("a", 2001), run("a", 1)}, impl.ErrState},
		{[]impl.Run{run("a", 2001), run("b", 1), run("b", 1)}, impl.ErrState},
	}
	for _, c := range cases {
		got, code := impl.WordOfRuns(c.runs)
		name := fmt.Sprint("WordOfRuns of ", c.runs)
		if c.code != impl.OK {
			failsWith(t, name, list(got, code), c.code)
			continue
		}
		want := ""
		for _, run := range c.runs {
			want += strings.Repeat(run.Letter, int(run.Count))
		}
		if got != want || code != impl.OK {
			t.Errorf("%s: got %.20q and the code %d", name, got, code)
		}
	}
}

// shifted returns the shift of a word by k places.
func shifted(w string, k int) string { return w[k:] + w[:k] }

// isLyndon tells from the definition whether w is a Lyndon word.
func isLyndon(w string) bool {
	for k := 1; k < len(w); k++ {
		if w >= shifted(w, k) {
			return false
		}
	}
	return w != ""
}

func TestPromise3LyndonFactors(t *testing.T) {
	for _, w := range append(shortWords(), longWords()...) {
		factors, code := impl.LyndonFactors(w)
		for i, factor := range factors {
			if !isLyndon(factor) || i > 0 && factors[i-1] < factor {
				t.Fatalf("LyndonFactors of %.20q: %.20q is wrong", w, factor)
			}
		}
		if strings.Join(factors, "") != w || code != impl.OK {
			t.Errorf("LyndonFactors of %.20q: got %q and the code %d", w, factors, code)
		}
	}
	for w, want := range map[string]string{"": "[] 0", "a": "[a] 0", "aa": "[a a] 0", "ab": "[ab] 0", "ba": "[b a] 0", "abab": "[ab ab] 0", "abaaab": "[ab aaab] 0", "dcba": "[d c b a] 0", "abcd": "[abcd] 0"} {
		factors, code := impl.LyndonFactors(w)
		is(t, "LyndonFactors of "+w, want, factors, code)
	}
}

func TestPromise3LeastShifts(t *testing.T) {
	for _, w := range append(shortWords(), longWords()...) {
		want := 0
		for k := range len(w) {
			if shifted(w, k) < shifted(w, want) {
				want = k
			}
		}
		k, code := impl.LeastShift(w)
		is(t, fmt.Sprintf("LeastShift of %.20q", w), fmt.Sprint(want, " 0"), k, code)
	}
	k, code := impl.LeastShift("baba")
	is(t, "LeastShift of baba", "1 0", k, code)
}

func TestPromise3Shifts(t *testing.T) {
	words := append(wordsUpTo("ab", 6), wordsUpTo("abcd", 3)...)
	for _, u := range words {
		shifts := []string{u}
		for k := 1; k < len(u); k++ {
			shifts = append(shifts, shifted(u, k))
		}
		for _, w := range words {
			k, code := impl.ShiftTo(u, w)
			want := slices.Index(shifts, w)
			if want < 0 {
				failsWith(t, fmt.Sprintf("ShiftTo of %q and %q", u, w), list(k, code), impl.ErrNotFound)
			} else {
				is(t, fmt.Sprintf("ShiftTo of %q and %q", u, w), fmt.Sprint(want, " 0"), k, code)
			}
		}
	}
	full := longWords()[9]
	for _, n := range []int{0, 1, 1000, 1999} {
		k, code := impl.ShiftTo(full, shifted(full, n))
		is(t, fmt.Sprint("ShiftTo of a long word by ", n), fmt.Sprint(n, " 0"), k, code)
	}
	for _, pair := range [][2]string{{"", "a"}, {"a", ""}, {"ab", "aba"}, {"ab", "abab"}, {"abab", "ab"}, {"ab", "bb"}, {full, full[1:]}} {
		k, code := impl.ShiftTo(pair[0], pair[1])
		failsWith(t, "ShiftTo of words that are no shifts", list(k, code), impl.ErrNotFound)
	}
}

// famous checks the errors of one of the words that are numbered.
func famous(t *testing.T, name string, word func(int64) (string, int64), last int64) {
	t.Helper()
	for _, n := range []int64{least, -1, impl.MaxIndex + 1, 1 << 32, greatest} {
		w, code := word(n)
		failsWith(t, fmt.Sprint(name, " of ", n), list(w, code), impl.ErrRange)
	}
	for n := last + 1; n <= impl.MaxIndex; n++ {
		w, code := word(n)
		failsWith(t, fmt.Sprint(name, " of ", n), list(w, code), impl.ErrLimit)
	}
}

func TestPromise3FibonacciWords(t *testing.T) {
	words := []string{"b", "a", "ab", "aba", "abaab", "abaababa"}
	for len(words[len(words)-1])+len(words[len(words)-2]) <= impl.MaxPlain {
		words = append(words, words[len(words)-1]+words[len(words)-2])
	}
	for n, want := range words {
		w, code := impl.FibonacciWord(int64(n))
		is(t, fmt.Sprint("FibonacciWord of ", n), want+" 0", w, code)
	}
	is(t, "the longest FibonacciWord", "17 1597", len(words), len(words[16]))
	famous(t, "FibonacciWord", impl.FibonacciWord, 16)
}

func TestPromise3ThueWords(t *testing.T) {
	is(t, "ThueWord of 0", "a 0", list(impl.ThueWord(0))...)
	is(t, "ThueWord of 1", "ab 0", list(impl.ThueWord(1))...)
	is(t, "ThueWord of 2", "abba 0", list(impl.ThueWord(2))...)
	for n := range int64(11) {
		// The letter at a place tells whether its number has an odd number of ones in the base 2.
		want := ""
		for i := range 1 << n {
			want += "ab"[strings.Count(fmt.Sprintf("%b", i), "1")%2:][:1]
		}
		w, code := impl.ThueWord(n)
		is(t, fmt.Sprint("ThueWord of ", n), want+" 0", w, code)
	}
	famous(t, "ThueWord", impl.ThueWord, 10)
}
