package tests

import (
	"fmt"
	"slices"
	"strconv"
	"strings"
	"testing"

	"loop.example/g01133/impl"
)

// plainBy returns the grammar that PlainGrammar should make.
func plainBy(w string) impl.Grammar {
	var g impl.Grammar
	letters := ""
	for _, x := range strings.Split("abcd", "") {
		if strings.Contains(w, x) {
			letters += x
			g.Rules = append(g.Rules, letter(x))
		}
	}
	for place := 1; place < len(w); place++ {
		before := len(letters) + place - 2
		if place == 1 {
			before = strings.Index(letters, w[:1])
		}
		g.Rules = append(g.Rules, pair(before, strings.Index(letters, w[place:place+1])))
	}
	return g
}

func TestPromise5PlainGrammars(t *testing.T) {
	for w, want := range map[string]string{"": "", "c": "c\n", "dd": "d\n0 0\n", "bba": "a\nb\n1 1\n2 0\n", "dab": "a\nb\nd\n2 0\n3 1\n", "abaab": "a\nb\n0 1\n2 0\n3 0\n4 1\n"} {
		g, code := impl.PlainGrammar(w)
		sameGrammar(t, "PlainGrammar of "+w, g, code, gram(want))
	}
	words := append(shortWords(), mixedWord("abcd", 397, 3), mixedWord("bd", 399, 4), strings.Repeat("c", 400), mixedWord("acd", 398, 5))
	for _, w := range words {
		g, code := impl.PlainGrammar(w)
		sameGrammar(t, "PlainGrammar of "+w, g, code, plainBy(w))
		is(t, "the word of a plain grammar", w+" true", wordOf(g), impl.ValidGrammar(g))
	}
	for _, w := range append(longWords(), mixedWord("abcd", 398, 3), mixedWord("bd", 400, 4), strings.Repeat("c", 401), mixedWord("acd", 399, 5)) {
		g, code := impl.PlainGrammar(w)
		failsWith(t, fmt.Sprint("PlainGrammar of letters: ", len(w)), list(g, code), impl.ErrLimit)
	}
}

// joinedBy returns the grammar that JoinGrammars should make.
func joinedBy(g, h impl.Grammar) impl.Grammar {
	if len(g.Rules) == 0 || len(h.Rules) == 0 {
		return rules(slices.Concat(g.Rules, h.Rules)...)
	}
	joined := rules(slices.Clone(g.Rules)...)
	for _, rule := range h.Rules {
		if rule.Letter == "" {
			rule = pair(int(rule.Left)+len(g.Rules), int(rule.Right)+len(g.Rules))
		}
		joined.Rules = append(joined.Rules, rule)
	}
	return rules(append(joined.Rules, pair(last(g), last(joined)))...)
}

func TestPromise5Joins(t *testing.T) {
	grammars := append(smallGrammars(3), mixedGrammars(12, 40)[:30]...)
	for _, g := range grammars {
		for _, h := range grammars {
			joined, code := impl.JoinGrammars(g, h)
			sameGrammar(t, "JoinGrammars", joined, code, joinedBy(g, h))
			is(t, "the word of a join", wordOf(g)+wordOf(h)+" true", wordOf(joined), impl.ValidGrammar(joined))
		}
	}
	half, _ := impl.PowerGrammar(gram("a\nb\n0 1\n"), impl.MaxLength/4)
	more, _ := impl.JoinGrammars(half, gram("a\n"))
	none, full := impl.Grammar{}, fullGrammar()
	for _, c := range []struct {
		g, h impl.Grammar
		code int64
	}{
		{none, none, impl.OK},
		{full, none, impl.OK},
		{none, full, impl.OK},
		{chain(400), none, impl.OK},
		{none, chain(400), impl.OK},
		{chain(400), gram("a\n"), impl.ErrLimit},
		{gram("a\n"), chain(400), impl.ErrLimit},
		{chain(200), chain(199), impl.OK},
		{chain(200), chain(200), impl.ErrLimit},
		{chain(398), gram("d\n"), impl.OK},
		{chain(399), gram("d\n"), impl.ErrLimit},
		{half, half, impl.OK},
		{half, more, impl.ErrLimit},
		{more, half, impl.ErrLimit},
		{full, gram("b\n"), impl.ErrLimit},
		{gram("b\n"), full, impl.ErrLimit},
		{full, full, impl.ErrLimit},
	} {
		joined, code := impl.JoinGrammars(c.g, c.h)
		if c.code != impl.OK {
			failsWith(t, "JoinGrammars at a limit", list(joined, code), c.code)
		} else {
			sameGrammar(t, "JoinGrammars at a limit", joined, code, joinedBy(c.g, c.h))
		}
	}
}

// poweredBy returns the grammar that PowerGrammar should make, whether it is valid or not.
func poweredBy(g impl.Grammar, times int64) impl.Grammar {
	if times == 0 || len(g.Rules) == 0 {
		return impl.Grammar{}
	}
	power := rules(slices.Clone(g.Rules)...)
	for _, digit := range strconv.FormatInt(times, 2)[1:] {
		power.Rules = append(power.Rules, pair(last(power), last(power)))
		if digit == '1' {
			power.Rules = append(power.Rules, pair(last(power), last(g)))
		}
	}
	return power
}

func TestPromise5Powers(t *testing.T) {
	for _, g := range append(smallGrammars(4), mixedGrammars(20, 40)...) {
		for _, times := range []int64{0, 1, 2, 3, 4, 5, 6, 7, 8, 13, 21} {
			power, code := impl.PowerGrammar(g, times)
			sameGrammar(t, "PowerGrammar", power, code, poweredBy(g, times))
			is(t, "the word of a power", strings.Repeat(wordOf(g), int(times))+" true", wordOf(power), impl.ValidGrammar(power))
		}
		for _, times := range []int64{least, -1, impl.MaxLength + 1, greatest} {
			power, code := impl.PowerGrammar(g, times)
			failsWith(t, fmt.Sprint("PowerGrammar with ", times), list(power, code), impl.ErrRange)
		}
	}
	ab, full := gram("a\nb\n0 1\n"), fullGrammar()
	for _, c := range []struct {
		g     impl.Grammar
		times int64
		code  int64
	}{
		{impl.Grammar{}, impl.MaxLength, impl.OK},
		{gram("d\n"), impl.MaxLength, impl.OK},
		{gram("d\n"), impl.MaxLength - 1, impl.OK},
		{ab, impl.MaxLength / 2, impl.OK},
		{ab, impl.MaxLength/2 + 1, impl.ErrLimit},
		{ab, impl.MaxLength, impl.ErrLimit},
		{full, 0, impl.OK},
		{full, 1, impl.OK},
		{full, 2, impl.ErrLimit},
		{full, impl.MaxLength, impl.ErrLimit},
		{full, impl.MaxLength + 1, impl.ErrRange},
		{doubled(rules(letter("a")), 49), 2, impl.ErrLimit},
		{doubled(rules(letter("a")), 49), impl.MaxLength, impl.ErrLimit},
		{chain(400), 0, impl.OK},
		{chain(400), 1, impl.OK},
		{chain(400), 2, impl.ErrLimit},
		{chain(400), -1, impl.ErrRange},
		{chain(399), 2, impl.OK},
		{chain(399), 3, impl.ErrLimit},
		{chain(398), 3, impl.OK},
		{chain(398), 4, impl.OK},
		{chain(398), 5, impl.ErrLimit},
		{gram("a\nb\n"), 3, impl.OK},
		{gram("a\nb\n0 1\na\n"), impl.MaxLength, impl.OK},
	} {
		power, code := impl.PowerGrammar(c.g, c.times)
		if c.code != impl.OK {
			failsWith(t, fmt.Sprint("PowerGrammar with ", c.times), list(power, code), c.code)
		} else {
			sameGrammar(t, fmt.Sprint("PowerGrammar with ", c.times), power, code, poweredBy(c.g, c.times))
		}
	}
}

func TestPromise5TurnedWords(t *testing.T) {
	for _, g := range slices.Concat(someGrammars(), longGrammars()) {
		want := rules(slices.Clone(g.Rules)...)
		for number, rule := range g.Rules {
			want.Rules[number].Left, want.Rules[number].Right = rule.Right, rule.Left
		}
		turned, code := impl.TurnGrammar(g)
		sameGrammar(t, "TurnGrammar", turned, code, want)
		is(t, "a turned grammar", "true", impl.ValidGrammar(turned))
	}
	for _, g := range someGrammars() {
		turned, _ := impl.TurnGrammar(g)
		letters := []byte(wordOf(g))
		slices.Reverse(letters)
		is(t, "a turned word", string(letters), wordOf(turned))
	}
}

// partBy returns the grammar that PartGrammar should make, whether it is valid or not.
func partBy(g impl.Grammar, i, j int) impl.Grammar {
	if i == j {
		return impl.Grammar{}
	}
	words := wordsOf(g)
	var cover []int
	pieces := []int{last(g)}
	for start := 0; len(pieces) > 0; {
		first := pieces[0]
		pieces = pieces[1:]
		end := start + len(words[first])
		switch {
		case i <= start && end <= j:
			cover = append(cover, first)
			start = end
		case end <= i || j <= start:
			start = end
		default:
			pieces = append([]int{int(g.Rules[first].Left), int(g.Rules[first].Right)}, pieces...)
		}
	}
	if len(cover) == 1 {
		return trimmedBy(rules(g.Rules[:cover[0]+1]...))
	}
	made := rules(append(slices.Clone(g.Rules), pair(cover[0], cover[1]))...)
	for _, number := range cover[2:] {
		made.Rules = append(made.Rules, pair(last(made), number))
	}
	return trimmedBy(made)
}

func TestPromise5Parts(t *testing.T) {
	for _, g := range append(smallGrammars(4), mixedGrammars(25, 30)...) {
		word := wordOf(g)
		for i := range len(word) + 1 {
			for j := i; j <= len(word); j++ {
				made, code := impl.PartGrammar(g, int64(i), int64(j))
				sameGrammar(t, fmt.Sprint("PartGrammar ", i, j, " of ", textOf(g)), made, code, partBy(g, i, j))
				is(t, "the word of a part", word[i:j]+" true", wordOf(made), impl.ValidGrammar(made))
			}
		}
	}
}

// TestPromise5RulesOfParts tells by hand which rules are left.
func TestPromise5RulesOfParts(t *testing.T) {
	for _, c := range []struct {
		text, part string
		i, j       int64
	}{
		{example, example, 0, 5},
		{example, "a\nb\n1 0\n2 0\n", 1, 4},
		{example, "a\nb\n0 1\n2 0\n", 0, 3},
		{example, "a\nb\n0 1\n", 3, 5},
		{example, "a\nb\n0 1\n", 0, 2},
		{example, "a\n", 0, 1},
		{example, "b\n", 1, 2},
		{example, "a\n0 0\n", 2, 4},
		{example, "a\nb\n0 1\n0 2\n", 2, 5},
		{example, "a\nb\n0 1\n2 0\n3 0\n", 0, 4},
		{example, "a\nb\n0 1\n1 0\n3 2\n", 1, 5},
		{example, "", 0, 0},
		{example, "", 5, 5},
		// A pair that g has, although it does not use it, is not made again.
		{"a\nb\n1 0\n0 0\n0 1\n4 0\n5 3\n", "a\nb\n1 0\n0 0\n2 3\n", 1, 5},
		// The first one of equal letters and pairs stands for all of them.
		{"b\na\nb\n1 2\n0 1\n3 4\n3 4\n5 6\n", "b\na\n1 0\n0 1\n2 3\n", 4, 8},
		{"b\na\nb\n1 2\n0 1\n3 4\n3 4\n5 6\n", "b\na\n0 1\n0 2\n", 1, 4},
		{"b\na\nb\n1 2\n", "b\n", 1, 2},
	} {
		g := gram(c.text)
		if n := int64(len(wordOf(g))); c.j > n || c.i > c.j {
			t.Fatalf("the word %q has no part from %d to %d", wordOf(g), c.i, c.j)
		}
		made, code := impl.PartGrammar(g, c.i, c.j)
		sameGrammar(t, fmt.Sprint("PartGrammar ", c.i, c.j, " of ", c.text), made, code, gram(c.part))
	}
}

// TestPromise5PartsAtTheirLimit checks that the rules that are left count, not those on the way.
func TestPromise5PartsAtTheirLimit(t *testing.T) {
	made, code := impl.PartGrammar(chain(400), 1, 400)
	sameGrammar(t, "a part of many letters", made, code, chain(399))
	w := mixedWord("ab", 399, 9)
	made, code = impl.PartGrammar(plainBy(w), 1, 399)
	sameGrammar(t, "a part of a plain grammar", made, code, plainBy(w[1:]))
	// The word w twice, from the place 1 on: all rules but the last one are left,
	// and there is a new pair for each letter of w from the place 2 on, and for w.
	for _, c := range []struct {
		w     string
		count int
	}{{"abb" + mixedWord("ab", 197, 1), 400}, {"abb" + mixedWord("abc", 197, 1), 401}, {"abb" + mixedWord("ab", 198, 1), 402}, {"abb" + mixedWord("abc", 196, 1), 399}} {
		g := plainBy(c.w)
		g.Rules = append(g.Rules, pair(last(g), last(g)))
		want := partBy(g, 1, 2*len(c.w))
		is(t, "the number of rules", fmt.Sprint(c.count), len(want.Rules))
		made, code = impl.PartGrammar(g, 1, int64(2*len(c.w)))
		if c.count > impl.MaxRules {
			failsWith(t, "a part with too many rules", list(made, code), impl.ErrLimit)
		} else {
			sameGrammar(t, "a part with many rules", made, code, want)
		}
	}
}

func TestPromise5LongParts(t *testing.T) {
	full := fullGrammar()
	for _, i := range []int64{0, 1, 333333333333333, impl.MaxLength / 2, impl.MaxLength - 1, impl.MaxLength} {
		for _, j := range []int64{i, i + 1, i + 2, i + 999999, i + 444444444444444, impl.MaxLength} {
			made, code := impl.PartGrammar(full, i, j)
			if j > impl.MaxLength {
				failsWith(t, "PartGrammar beyond the end", list(made, code), impl.ErrRange)
				continue
			}
			n, _ := impl.LengthOf(made)
			is(t, fmt.Sprint("the length of the part from ", i, " to ", j), fmt.Sprint(j-i, " 0 true"), n, code, impl.ValidGrammar(made))
			for _, k := range []int64{0, 1, (j - i) / 3, j - i - 1} {
				if k >= 0 && k < j-i {
					x, _ := impl.LetterAt(made, k)
					want, _ := impl.LetterAt(full, i+k)
					is(t, "a letter of a long part", want, x)
				}
			}
		}
	}
	made, code := impl.PartGrammar(full, 0, impl.MaxLength)
	trimmed, _ := impl.TrimGrammar(full)
	sameGrammar(t, "the part that is the whole word", made, code, trimmed)
}

// mappedBy returns the rules of which MapLetters should make its grammar, those
// up to the last one that counts, and how many there are on the way.
func mappedBy(g impl.Grammar, words []string) (impl.Grammar, int) {
	var way impl.Grammar
	stands := map[string]int{}
	for l, w := range words {
		x := "abcd"[l : l+1]
		stands[x] = -1
		if !slices.Contains(g.Rules, letter(x)) || w == "" {
			continue
		}
		count := len(way.Rules)
		for _, rule := range plainBy(w).Rules {
			if rule.Letter == "" {
				rule = pair(int(rule.Left)+count, int(rule.Right)+count)
			}
			way.Rules = append(way.Rules, rule)
		}
		stands[x] = last(way)
	}
	var all []int
	for _, rule := range g.Rules {
		if rule.Letter != "" {
			all = append(all, stands[rule.Letter])
			continue
		}
		var both []int
		for _, number := range []int64{rule.Left, rule.Right} {
			if all[number] >= 0 {
				both = append(both, all[number])
			}
		}
		switch len(both) {
		case 0:
			all = append(all, -1)
		case 1:
			all = append(all, both[0])
		case 2:
			way.Rules = append(way.Rules, pair(both[0], both[1]))
			all = append(all, last(way))
		}
	}
	if len(all) == 0 {
		return impl.Grammar{}, 0
	}
	return rules(way.Rules[:all[len(all)-1]+1]...), len(way.Rules)
}

func TestPromise5MappedLetters(t *testing.T) {
	lists := [][]string{
		{"a", "b", "c", "d"}, {"b", "a", "d", "c"}, {"", "", "", ""}, {"b", "", "", ""}, {"", "ab", "", ""}, {"", "", "", "d"},
		{"ab", "a", "", "c"}, {"aa", "aa", "aa", "aa"}, {"abaab", "ab", "d", "ba"}, {"a", "a", "", "dcba"},
	}
	for _, g := range append(smallGrammars(4), mixedGrammars(20, 40)...) {
		for _, words := range lists {
			name := fmt.Sprintf("MapLetters with %q of %s", words, textOf(g))
			want, _ := mappedBy(g, words)
			made, code := impl.MapLetters(g, words)
			sameGrammar(t, name, made, code, trimmedBy(want))
			word := ""
			for _, x := range wordOf(g) {
				word += words[x-'a']
			}
			is(t, "the word of "+name, word+" true", wordOf(made), impl.ValidGrammar(made))
		}
	}
}

// TestPromise5RulesOfMappedLetters tells by hand which rules are left.
func TestPromise5RulesOfMappedLetters(t *testing.T) {
	for _, c := range []struct {
		text  string
		words [4]string
		want  string
	}{
		{example, [4]string{"a", "b", "", ""}, example},
		{example, [4]string{"b", "", "", ""}, "b\n0 0\n1 0\n"},
		{example, [4]string{"", "a", "", ""}, "a\n0 0\n"},
		{example, [4]string{"", "", "a", "a"}, ""},
		{example, [4]string{"b", "a", "", ""}, "b\na\n0 1\n2 0\n3 2\n"},
		{example, [4]string{"ba", "cb", "", ""}, "a\nb\n1 0\nc\n3 1\n2 4\n5 2\n6 5\n"},
		{example, [4]string{"aa", "a", "", ""}, "a\n0 0\n1 0\n2 1\n3 2\n"},
		// The words come in the order of the letters, not of the rules.
		{"b\na\n0 1\n", [4]string{"c", "d", "", ""}, "c\nd\n1 0\n"},
		{"d\nb\n0 1\n1 0\n2 3\n", [4]string{"", "", "", "b"}, "b\n0 0\n"},
		// Pairs that become equal are one, and the first one stays.
		{"a\nb\n0 1\n1 0\n2 3\n", [4]string{"c", "c", "", ""}, "c\n0 0\n1 1\n"},
		// A letter twice, and letters that are not used.
		{"a\na\n0 1\n", [4]string{"ab", "", "", ""}, "a\nb\n0 1\n2 2\n"},
		{"c\na\nb\n0 0\n2 2\n", [4]string{"b", "d", "d", ""}, "d\n0 0\n"},
		{"a\nb\n", [4]string{"ab", "b", "", ""}, "b\n"},
		{"", [4]string{"a", "b", "c", "d"}, ""},
		// The last rule stands for an earlier one, behind which others are made.
		{"a\nb\nd\n0 1\n3 0\n0 2\n", [4]string{"c", "a", "", ""}, "c\n"},
	} {
		made, code := impl.MapLetters(gram(c.text), c.words[:])
		sameGrammar(t, fmt.Sprintf("MapLetters with %q of %s", c.words, c.text), made, code, gram(c.want))
	}
}

func TestPromise5MappedLettersAtTheirLimits(t *testing.T) {
	as := func(count int) string { return strings.Repeat("a", count) }
	unused := rules(append(doubled(rules(letter("a")), 49).Rules, letter("b"), pair(50, 50))...)
	for _, c := range []struct {
		g     impl.Grammar
		words []string
		code  int64
	}{
		{gram("a\n"), []string{as(400), "", "", ""}, impl.OK},
		{gram("a\n"), []string{as(401), "", "", ""}, impl.ErrLimit},
		{gram("a\n"), []string{as(2000), "", "", ""}, impl.ErrLimit},
		{gram("a\n"), []string{"b", as(2000), as(2000), as(2000)}, impl.OK},
		{gram("c\n"), []string{as(2000), as(2000), as(400), as(2000)}, impl.OK},
		{gram(""), []string{as(2000), as(2000), as(2000), as(2000)}, impl.OK},
		// Rules that are not left count as well, also if nothing is left.
		{gram("a\nb\n"), []string{as(200), as(200), "", ""}, impl.OK},
		{gram("a\nb\n"), []string{as(201), as(200), "", ""}, impl.ErrLimit},
		{gram("a\nb\n"), []string{as(401), "", "", ""}, impl.ErrLimit},
		{gram("a\nb\n"), []string{as(400), "", "", ""}, impl.OK},
		{gram("a\n0 0\nb\n"), []string{as(400), "", "", ""}, impl.ErrLimit},
		{gram("a\n0 0\nb\n"), []string{as(399), "", "", ""}, impl.OK},
		{chain(400), []string{"d", "", "", ""}, impl.OK},
		{chain(400), []string{"", "", "", ""}, impl.OK},
		{chain(400), []string{"aa", "", "", ""}, impl.ErrLimit},
		{chain(399), []string{"aa", "", "", ""}, impl.OK},
		{chain(399), []string{"ab", "", "", ""}, impl.ErrLimit},
		// Words that are too long.
		{fullGrammar(), []string{"b", "a", "", ""}, impl.OK},
		{fullGrammar(), []string{"ab", "", "", ""}, impl.OK},
		{fullGrammar(), []string{"ab", "a", "", ""}, impl.ErrLimit},
		{fullGrammar(), []string{as(150), as(149), "", ""}, impl.ErrLimit},
		{fullGrammar(), []string{as(2000), as(2000), "", ""}, impl.ErrLimit},
		{doubled(rules(letter("a")), 49), []string{"a", "", "", ""}, impl.OK},
		{doubled(rules(letter("a")), 49), []string{"ab", "", "", ""}, impl.ErrLimit},
		// One that is too long, and of which the last rule is not made, is not in the result.
		{unused, []string{"ab", "c", "", ""}, impl.OK},
		{unused, []string{as(200), "c", "", ""}, impl.OK},
	} {
		name := fmt.Sprintf("MapLetters with %.9q of %.30q", c.words, textOf(c.g))
		made, code := impl.MapLetters(c.g, c.words)
		if c.code != impl.OK {
			failsWith(t, name, list(made, code), c.code)
			continue
		}
		want, count := mappedBy(c.g, c.words)
		again, other := impl.TrimGrammar(made)
		is(t, name, "true 0 true true", count <= 400, code, impl.ValidGrammar(made), impl.SameGrammar(again, made))
		if n, _ := impl.LengthOf(made); n <= impl.MaxPlain && other == impl.OK {
			is(t, name, wordOf(want), wordOf(made))
		}
	}
	made, code := impl.MapLetters(unused, []string{"ab", "c", "", ""})
	sameGrammar(t, "MapLetters of a grammar with an unused rule", made, code, gram("c\n0 0\n"))
}

func TestPromise5TrimmedGrammars(t *testing.T) {
	for _, g := range append(smallGrammars(5), mixedGrammars(30, 100)...) {
		trimmed, code := impl.TrimGrammar(g)
		sameGrammar(t, "TrimGrammar of "+textOf(g), trimmed, code, trimmedBy(g))
		is(t, "the word of a trimmed grammar", wordOf(g)+" true true", wordOf(trimmed), impl.ValidGrammar(trimmed), len(trimmed.Rules) <= len(g.Rules))
		again, code := impl.TrimGrammar(trimmed)
		sameGrammar(t, "a grammar that is trimmed twice", again, code, trimmed)
	}
	for text, want := range map[string]string{
		"":          "",
		"d\n":       "d\n",
		"a\nb\n":    "b\n",
		"a\na\n":    "a\n",
		"a\n0 0\n":  "a\n0 0\n",
		example:     example,
		"b\na\n0 1": "b\na\n0 1\n",
		// Rules that become equal only when those before have been made one.
		"a\na\n0 1\n1 0\n2 3\n":    "a\n0 0\n1 1\n",
		"a\nb\nc\n0 1\n0 1\n3 4\n": "a\nb\n0 1\n2 2\n",
		// The last rule is equal to an earlier one.
		"a\nb\n0 1\n1 0\n2 3\n0 1\n": "a\nb\n0 1\n",
		"a\n0 0\nb\n0 0\n":           "a\n0 0\n",
		"a\nb\n0 1\na\n":             "a\n",
		// The first one of equal rules stays at its place, although only the later ones are used.
		"a\nb\na\n1 2\n":                "a\nb\n1 0\n",
		"a\nb\n0 1\nb\n3 0\n":           "a\nb\n1 0\n",
		"a\n0 0\nb\na\n3 3\n2 4\n":      "a\n0 0\nb\n2 1\n",
		"c\nd\n1 0\n1 1\n1 0\n3 4\n":    "c\nd\n1 0\n1 1\n3 2\n",
		"a\n0 0\n1 1\n0 1\n1 0\n3 4\n":  "a\n0 0\n0 1\n1 0\n2 3\n",
		"d\nc\nb\na\n3 2\n1 0\n4 5\n":   "d\nc\nb\na\n3 2\n1 0\n4 5\n",
		"a\nb\n0 1\n0 0\n3 3\n2 2\n0 0": "a\n0 0\n",
	} {
		trimmed, code := impl.TrimGrammar(gram(text))
		sameGrammar(t, "TrimGrammar of "+text, trimmed, code, gram(want))
	}
	many := rules(slices.Repeat([]impl.Rule{letter("c")}, 400)...)
	trimmed, code := impl.TrimGrammar(many)
	sameGrammar(t, "TrimGrammar of the same letter 400 times", trimmed, code, gram("c\n"))
	for _, g := range []impl.Grammar{chain(400), fibonacci(), doubled(rules(letter("b")), 49)} {
		trimmed, code := impl.TrimGrammar(g)
		if g.Rules[0].Letter == "b" && g.Rules[1].Letter == "a" {
			is(t, "the Fibonacci rules that are left", fmt.Sprint(len(g.Rules), " 0"), len(trimmed.Rules), code)
		}
		sameGrammar(t, "TrimGrammar of a grammar of which all is used", trimmed, code, g)
	}
}

// countUses counts how often each rule is met, one after the other.
func countUses(g impl.Grammar, number int, uses []int64) {
	uses[number]++
	if rule := g.Rules[number]; rule.Letter == "" {
		countUses(g, int(rule.Left), uses)
		countUses(g, int(rule.Right), uses)
	}
}

func TestPromise5UsesAndCounts(t *testing.T) {
	for _, g := range someGrammars() {
		want := make([]int64, len(g.Rules))
		if len(g.Rules) > 0 {
			countUses(g, last(g), want)
		}
		uses, code := impl.UsesOf(g)
		same(t, "UsesOf "+textOf(g), uses, code, want)
		var counts []int64
		for _, x := range strings.Split("abcd", "") {
			counts = append(counts, int64(strings.Count(wordOf(g), x)))
		}
		got, code := impl.LetterCounts(g)
		same(t, "LetterCounts of "+textOf(g), got, code, counts)
	}
	for text, want := range map[string]string{
		"":                           "[] 0 [0 0 0 0] 0",
		example:                      "[3 2 2 1 1] 0 [3 2 0 0] 0",
		"a\nb\n":                     "[0 1] 0 [0 1 0 0] 0",
		"d\nd\n0 1\n2 2\n":           "[2 2 2 1] 0 [0 0 0 4] 0",
		"a\nb\nc\n0 0\n1 3\n3 3\n":   "[4 0 0 2 0 1] 0 [4 0 0 0] 0",
		"c\n0 0\n1 1\n2 2\nd\n3 0\n": "[9 4 2 1 0 1] 0 [0 0 9 0] 0",
	} {
		uses, one := impl.UsesOf(gram(text))
		counts, two := impl.LetterCounts(gram(text))
		is(t, "uses and counts of "+text, want, uses, one, counts, two)
	}
	uses, one := impl.UsesOf(doubled(rules(letter("c")), 49))
	for number, n := range uses {
		is(t, "uses of powers of 2", fmt.Sprint(int64(1)<<(49-number), " 0"), n, one)
	}
	counts, two := impl.LetterCounts(fullGrammar())
	is(t, "counts of the longest word", "[500000000000000 500000000000000 0 0] 0", counts, two)
	lengths, _ := impl.LengthsOf(fibonacci())
	counts, two = impl.LetterCounts(fibonacci())
	n := len(lengths)
	is(t, "counts of the longest Fibonacci word", fmt.Sprintf("[%d %d 0 0] 0", lengths[n-2], lengths[n-3]), counts, two)
}
