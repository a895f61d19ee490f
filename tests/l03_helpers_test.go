package tests

import (
	"fmt"
	"slices"
	"strings"
	"testing"

	"loop.example/g01133/impl"
)

// piece is a short word so many times, and a list of pieces is a word that may be long.
type piece struct {
	word  string
	times int64
}

type pieces []piece

func (w pieces) length() int64 {
	n := int64(0)
	for _, p := range w {
		n += int64(len(p.word)) * p.times
	}
	return n
}

// start returns the first i letters, and rest what is behind them.
func (w pieces) start(i int64) pieces {
	var made pieces
	for _, p := range w {
		n := min(i, int64(len(p.word))*p.times)
		times, letters := n/int64(len(p.word)), n%int64(len(p.word))
		made = append(made, piece{p.word, times}, piece{p.word[:letters], min(1, letters)})
		i -= n
	}
	return made.tidy()
}

func (w pieces) rest(i int64) pieces {
	return w.turned().start(w.length() - i).turned()
}

// tidy returns pieces without empty ones.
func (w pieces) tidy() pieces {
	return slices.DeleteFunc(slices.Clone(w), func(p piece) bool { return p.word == "" || p.times == 0 })
}

func (w pieces) turned() pieces {
	var made pieces
	for _, p := range slices.Backward(w) {
		letters := []byte(p.word)
		slices.Reverse(letters)
		made = append(made, piece{string(letters), p.times})
	}
	return made
}

// with returns the word with another letter at a place.
func (w pieces) with(i int64, letter string) pieces {
	return slices.Concat(w.start(i), pieces{{letter, 1}}, w.rest(i+1))
}

// at returns the word of the piece at a place, the place in it, and how many letters of the piece are ahead.
func (w pieces) at(i int64) (string, int64, int64) {
	for _, p := range w {
		n := int64(len(p.word)) * p.times
		if i < n {
			return p.word, i % int64(len(p.word)), n - i
		}
		i -= n
	}
	return "", 0, 0
}

// letter returns the letter at a place, the empty string at the end.
func (w pieces) letter(i int64) string {
	word, at, left := w.at(i)
	if left == 0 {
		return ""
	}
	return word[at : at+1]
}

// commonBy returns how many letters two words have in common from these places on: two pieces
// that have as many letters in common as both of their words have, have all of them in common.
func commonBy(u pieces, i int64, w pieces, j int64) int64 {
	for length := int64(0); ; {
		one, k, left := u.at(i + length)
		two, l, right := w.at(j + length)
		n := min(left, right)
		if n == 0 {
			return length
		}
		for range min(n, int64(len(one)+len(two))) {
			if one[k%int64(len(one))] != two[l%int64(len(two))] {
				return length
			}
			k, l, n, length = k+1, l+1, n-1, length+1
		}
		length += n
	}
}

// compareBy orders what follows from two places.
func compareBy(u pieces, i int64, w pieces, j int64) int {
	n := commonBy(u, i, w, j)
	return strings.Compare(u.letter(i+n), w.letter(j+n))
}

func (w pieces) String() string {
	return fmt.Sprintf("%v", []piece(w))
}

// must returns a grammar that has to be right.
func must(t *testing.T, g impl.Grammar, code int64) impl.Grammar {
	t.Helper()
	if code != impl.OK {
		t.Fatalf("a grammar is not made: got the code %d", code)
	}
	return g
}

// joinOf returns a trimmed join.
func joinOf(t *testing.T, g, h impl.Grammar) impl.Grammar {
	t.Helper()
	joined, code := impl.JoinGrammars(g, h)
	joined, code = impl.TrimGrammar(must(t, joined, code))
	return must(t, joined, code)
}

// partOf returns a part.
func partOf(t *testing.T, g impl.Grammar, i, j int64) impl.Grammar {
	t.Helper()
	part, code := impl.PartGrammar(g, i, j)
	return must(t, part, code)
}

// powerOf returns a power that is made of powers, each of at most this exponent.
func powerOf(t *testing.T, g impl.Grammar, times, most int64) impl.Grammar {
	t.Helper()
	if times <= most {
		power, code := impl.PowerGrammar(g, times)
		return must(t, power, code)
	}
	power, code := impl.PowerGrammar(g, most)
	power = powerOf(t, must(t, power, code), times/most, most)
	return joinOf(t, power, powerOf(t, g, times%most, most))
}

// grammarOf returns a grammar of pieces, joined from the left.
func grammarOf(t *testing.T, w pieces) impl.Grammar {
	t.Helper()
	var g impl.Grammar
	for _, p := range w {
		g = joinOf(t, g, powerOf(t, plainBy(p.word), p.times, impl.MaxLength))
	}
	return g
}

// cutAndJoined returns a grammar of the same word, cut at a place and joined again.
func cutAndJoined(t *testing.T, g impl.Grammar, i int64) impl.Grammar {
	t.Helper()
	n, _ := impl.LengthOf(g)
	return joinOf(t, partOf(t, g, 0, i), partOf(t, g, i, n))
}

// grammarsOf returns grammars of the same word that are put together in different ways.
func grammarsOf(t *testing.T, w pieces) []impl.Grammar {
	t.Helper()
	left, n := grammarOf(t, w), w.length()
	var right, powers impl.Grammar
	for _, p := range slices.Backward(w) {
		right = joinOf(t, powerOf(t, plainBy(p.word), p.times, impl.MaxLength), right)
		powers = joinOf(t, powerOf(t, plainBy(p.word), p.times, 1000), powers)
	}
	turned, _ := impl.TurnGrammar(grammarOf(t, w.turned()))
	cut := left
	for _, i := range []int64{n / 3, 1, n - 1} {
		cut = cutAndJoined(t, cut, max(0, min(i, n)))
	}
	return []impl.Grammar{left, right, powers, turned, cut, cutAndJoined(t, right, n/7)}
}

// hugeWords returns words of up to MaxLength letters.
func hugeWords() []pieces {
	const n = impl.MaxLength
	return []pieces{
		{{"a", n}},
		{{"ab", n / 2}},
		{{"abaab", n / 5}},
		{{"a", n / 2}, {"b", 1}, {"a", n/2 - 1}},
		{{"a", n/2 - 1}, {"b", 1}, {"a", n/2 - 1}},
		{{"b", 1}, {"a", n - 1}},
		{{"a", n - 1}, {"b", 1}},
		{{"abc", n / 10}, {"d", 1}, {"abc", n / 10}, {"d", 1}, {"cba", n / 10}},
		{{"aab", n / 10}, {"ab", n / 10}, {"aab", n / 10}},
		{{"abcd", n / 9}, {"abca", 1}, {"bcd", 1}, {"abcd", n / 9}},
		{{"ab", n / 8}, {"ba", n / 8}},
		{{"a", 1 << 40}, {"b", 1 << 40}, {"a", 1 << 40}, {"b", 1 << 40}},
		{{"a", 999999999}, {"b", 1}, {"a", 999999999}, {"b", 1}, {"a", 999999999}, {"b", 1}},
		{{"abacabad", impl.MaxRooted / 8}},
	}
}

// somePlaces returns places of a word, those at both of its ends and around those of its pieces.
func (w pieces) somePlaces() []int64 {
	n, end := w.length(), int64(0)
	places := []int64{0, 1, 2, n / 3, n / 2, n/2 + 1, n - 2, n - 1, n}
	for _, p := range w {
		end += int64(len(p.word)) * p.times
		places = append(places, end-int64(len(p.word)), end-1, end, end+1)
	}
	slices.Sort(places)
	inside := func(i int64) bool { return i >= 0 && i <= n }
	return slices.DeleteFunc(slices.Compact(places), func(i int64) bool { return !inside(i) })
}

// plainWays returns grammars of a short word that is not empty: letter by letter from the left
// and from the right, and halved again and again.
func plainWays(w string) []impl.Grammar {
	right := rules()
	right.Rules = append(right.Rules, letter(w[len(w)-1:]))
	for i := len(w) - 2; i >= 0; i-- {
		behind := last(right)
		right.Rules = append(right.Rules, letter(w[i:i+1]), pair(behind+1, behind))
	}
	halved := rules()
	var add func(w string) int
	add = func(w string) int {
		if len(w) == 1 {
			halved.Rules = append(halved.Rules, letter(w))
		} else {
			left := add(w[:len(w)/2])
			halved.Rules = append(halved.Rules, pair(left, add(w[len(w)/2:])))
		}
		return last(halved)
	}
	add(w)
	return []impl.Grammar{plainBy(w), right, halved}
}

// thue returns the grammar of a Thue word of 2 to the power n letters, whose last rule but one is that
// of the same with "a" and "b" exchanged.
func thue(n int) impl.Grammar {
	g := rules(letter("b"), letter("a"))
	for range n {
		g.Rules = append(g.Rules, pair(last(g)-1, last(g)), pair(last(g), last(g)-1))
	}
	return g
}

// saysWhether checks a boolean result.
func saysWhether(t *testing.T, name string, got bool, code int64, want bool) {
	t.Helper()
	if got != want || code != impl.OK {
		t.Errorf("%s: got %v and the code %d, want %v", name, got, code, want)
	}
}

// counts checks a number, or the error if want is negative: -ErrNotFound stands for ErrNotFound.
func counts(t *testing.T, name string, got, code, want int64) {
	t.Helper()
	if want < 0 {
		failsWith(t, name, list(got, code), -want)
	} else if got != want || code != impl.OK {
		t.Errorf("%s: got %d and the code %d, want %d", name, got, code, want)
	}
}
