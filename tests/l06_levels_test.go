package tests

import (
	"fmt"
	"slices"
	"strings"
	"testing"

	"loop.example/g01133/impl"
)

// levels holds the level grammar of a grammar against what it should be, and returns the number of rules on the way.
func levels(t *testing.T, g impl.Grammar) int {
	t.Helper()
	name := fmt.Sprintf("LevelGrammar of %.120q", textOf(g))
	made, most := levelledBy(g)
	level, code := impl.LevelGrammar(g)
	if most > impl.MaxRules {
		failsWith(t, name, list(level, code), impl.ErrLimit)
		return most
	}
	sameGrammar(t, name, level, code, onlyUsed(made))
	yes, code := impl.IsLevel(level)
	saysWhether(t, "IsLevel of "+name, yes, code, true)
	if !impl.ValidGrammar(level) || !levelBy(level) {
		t.Errorf("%s is not level", name)
	}
	n, _ := impl.LengthOf(g)
	m, _ := impl.LengthOf(level)
	is(t, "the length of "+name, fmt.Sprint(n), m)
	notTooDeep(t, level)
	return most
}

// notTooDeep checks that all words of a level grammar have as many letters as their depths ask for.
func notTooDeep(t *testing.T, level impl.Grammar) {
	t.Helper()
	lengths, _ := impl.LengthsOf(level)
	for number, depth := range depthsBy(level) {
		if lengths[number] < leastLength(depth) {
			t.Errorf("a word of %d letters has the depth %d", lengths[number], depth)
		}
	}
}

// TestPromise15LevelsByHand tells by hand which rules there are, and in which order.
func TestPromise15LevelsByHand(t *testing.T) {
	for _, c := range []struct{ text, want string }{
		{"", ""},
		{"b\n", "b\n"},
		{"a\na\n0 1\n", "a\n0 0\n"},
		{"d\nb\nc\n0 2\n", "d\nc\n0 1\n"},
		{"a\n0 0\n1 0\n", "a\n0 0\n1 0\n"},
		{"a\n0 0\n0 1\n", "a\n0 0\n0 1\n"},
		// The example, and the same from the other side.
		{"a\n0 0\n1 0\n2 0\n", "a\n0 0\n1 1\n"},
		{"a\n0 0\n0 1\n0 2\n", "a\n0 0\n1 1\n"},
		// z is not deeper than a by more than 1: (ab)c and d are (ab)(cd), d and c(ba) are (dc)(ba).
		{"a\nb\nc\nd\n0 1\n4 2\n5 3\n", "a\nb\nc\nd\n0 1\n2 3\n4 5\n"},
		{"a\nb\nc\nd\n1 0\n2 4\n3 5\n", "a\nb\nc\nd\n1 0\n3 2\n5 4\n"},
		// a(bc) and d: z is (bc)d, which is deeper than a by 2, and bc is the deeper one of its rules: (ab)(cd).
		{"a\nb\nc\nd\n1 2\n0 4\n5 3\n", "a\nb\nc\nd\n0 1\n2 3\n4 5\n"},
		// d and (bc)a: z is d(bc): (db)(ca).
		{"a\nb\nc\nd\n1 2\n4 0\n3 5\n", "a\nb\nc\nd\n3 1\n2 0\n4 5\n"},
		// (ab)((cc)(dd)) and b: z is (cc)(ddb), which is deeper than ab by 2, and whose second rule is the deeper one: ((ab)(cc))((dd)b).
		{"a\nb\nc\nd\n0 1\n2 2\n3 3\n5 6\n4 7\n8 1\n", "a\nb\nc\nd\n0 1\n2 2\n3 3\n6 1\n4 5\n8 7\n"},
		// b and ((dd)(cc))(ab): the same from the other side.
		{"a\nb\nc\nd\n0 1\n2 2\n3 3\n6 5\n7 4\n1 8\n", "a\nb\nc\nd\n0 1\n2 2\n3 3\n1 6\n5 4\n7 8\n"},
		// Rules that are there are taken, wherever they come from.
		{"a\nb\nc\nd\n2 3\n0 1\n5 2\n6 3\n", "a\nb\nc\nd\n2 3\n0 1\n5 4\n"},
		// The last rule is an earlier one, and others are not used.
		{"a\nb\n0 1\n2 2\n0 1\n", "a\nb\n0 1\n"},
		{"a\nb\n0 1\n2 2\n3 0\na\n", "a\n"},
	} {
		level, code := impl.LevelGrammar(gram(c.text))
		sameGrammar(t, fmt.Sprintf("LevelGrammar of %q", c.text), level, code, gram(c.want))
		is(t, "the word by hand", wordOf(gram(c.text)), wordOf(gram(c.want)))
		levels(t, gram(c.text))
	}
}

func TestPromise15Levels(t *testing.T) {
	for _, g := range append(smallGrammars(5), someGrammars()...) {
		levels(t, g)
		level, code := impl.LevelGrammar(g)
		if code == impl.OK {
			is(t, "the word of a level grammar", wordOf(g), wordOf(level))
		}
	}
	for k, w := range append(makerWords(), longWords()...) {
		if len(w) > 300 {
			w = w[:300]
		}
		for _, g := range plainWays(w) {
			if len(g.Rules) > impl.MaxRules {
				continue
			}
			if most := levels(t, g); most <= impl.MaxRules && k%5 == 0 {
				level, _ := impl.LevelGrammar(g)
				is(t, "the word of a level grammar", w, wordOf(level))
			}
		}
	}
	for k := range 300 {
		g := mixedGrammar(10+k%90, 1+k*31, uint32(k*5))
		levels(t, g)
		levels(t, firstRules(grown(uint64(k+900)), 10+k%60))
	}
}

func TestPromise15IsLevel(t *testing.T) {
	for text, want := range map[string]bool{
		"": true, "a\n": true, "a\nb\n": true, "a\n0 0\n": true, "a\n0 0\n1 0\n": true, "a\n0 0\n0 1\n": true, "a\n0 0\n1 0\n2 0\n": false, "a\n0 0\n0 1\n0 2\n": false, example: true,
		"a\n0 0\n1 1\n2 1\n1 2\n3 4\n": true, "a\n0 0\n1 1\n2 2\n3 1\n": false, "a\n0 0\n1 1\n2 2\n1 3\n": false, "a\n0 0\n1 1\n2 0\n0 0\n": false, "a\n0 0\n1 1\n0 2\nb\n": false,
	} {
		yes, code := impl.IsLevel(gram(text))
		saysWhether(t, fmt.Sprintf("IsLevel of %q", text), yes, code, want)
	}
	for _, g := range slices.Concat(smallGrammars(4), mixedGrammars(30, 300), manyGrammars()) {
		yes, code := impl.IsLevel(g)
		saysWhether(t, "IsLevel", yes, code, levelBy(g))
	}
	for _, g := range []impl.Grammar{doubled(rules(letter("a")), 49), fibonacci(), thue(49), levelOnes(400)} {
		yes, code := impl.IsLevel(g)
		saysWhether(t, "IsLevel of a level grammar", yes, code, true)
		// A pair of the last rule and a letter is not level, also if the last rule is not made of it.
		deep := rules(append(slices.Clone(g.Rules[:min(last(g), 100)]), letter("d"))...)
		for _, p := range []impl.Rule{pair(0, last(deep)-1), pair(last(deep)-1, last(deep))} {
			for _, behind := range []impl.Rule{letter("a"), pair(0, 0)} {
				yes, code := impl.IsLevel(rules(append(slices.Clone(deep.Rules), p, behind)...))
				saysWhether(t, "IsLevel with a pair that is not level", yes, code, false)
			}
		}
	}
}

// levelOnes returns a level grammar of so many different rules, the words of which are all different.
func levelOnes(count int) impl.Grammar {
	g := rules(letter("a"), letter("b"), letter("c"), letter("d"))
	for left := 0; len(g.Rules) < count; left++ {
		for right := 0; right < 7 && len(g.Rules) < count; right++ {
			depths := depthsBy(g)
			if p := pair(left, right); right < len(g.Rules) && max(depths[left]-depths[right], depths[right]-depths[left]) <= 1 && !slices.Contains(g.Rules, p) {
				g.Rules = append(g.Rules, p)
			}
		}
	}
	return g
}

// firstRules returns the grammar of the first rules of a grammar.
func firstRules(g impl.Grammar, count int) impl.Grammar {
	return rules(slices.Clone(g.Rules[:count])...)
}

// withPair returns a grammar with a further pair that needs exactly so many new level rules.
func withPair(t *testing.T, g impl.Grammar, further int) impl.Grammar {
	t.Helper()
	_, before := levelledBy(g)
	for deep := range g.Rules {
		for x := range 4 {
			for _, p := range []impl.Rule{pair(deep, x), pair(x, deep)} {
				more := rules(append(slices.Clone(g.Rules), p)...)
				if _, most := levelledBy(more); most == before+further {
					return more
				}
			}
		}
	}
	t.Fatalf("no pair needs %d level rules", further)
	return g
}

// TestPromise15LevelsAtTheirLimit makes level grammars with exactly MaxRules rules on the way, and with more, wherever they are needed.
func TestPromise15LevelsAtTheirLimit(t *testing.T) {
	ones := levelOnes(impl.MaxRules)
	is(t, "the rules of a level grammar", "400", levels(t, ones))
	for _, c := range []struct{ ones, further int }{{397, 2}, {397, 3}, {398, 1}, {398, 2}, {398, 3}, {399, 0}, {399, 1}, {399, 2}, {399, 3}, {396, 3}, {380, 3}} {
		g := withPair(t, firstRules(ones, c.ones), c.further)
		name := fmt.Sprintf("%d rules and %d more", c.ones, c.further)
		is(t, name, fmt.Sprint(c.ones+c.further), levels(t, g))
		if len(g.Rules) == impl.MaxRules {
			continue
		}
		// Nothing is made of the pair: its rules count nevertheless.
		g.Rules = append(g.Rules, letter("c"))
		is(t, name+", which are not used", fmt.Sprint(c.ones+c.further), levels(t, g))
		level, code := impl.LevelGrammar(g)
		if c.ones+c.further <= impl.MaxRules {
			sameGrammar(t, name, level, code, gram("c\n"))
		} else {
			failsWith(t, name, list(level, code), impl.ErrLimit)
		}
	}
	// As many rules as there can be, few of which are different.
	same := chain(3)
	for len(same.Rules) < impl.MaxRules {
		same.Rules = append(same.Rules, pair(1, 0), letter("a"))[:min(len(same.Rules)+2, impl.MaxRules)]
	}
	is(t, "equal rules", "3", levels(t, same))
}

// shorterWords returns words like huge ones, but of up to some millions of letters.
func shorterWords() []pieces {
	var words []pieces
	for _, most := range []int64{1 << 9, 1 << 16, 1 << 21} {
		for _, w := range hugeWords() {
			w = slices.Clone(w)
			for k := range w {
				w[k].times = min(w[k].times, most+int64(k*k))
			}
			words = append(words, w)
		}
	}
	return words
}

// TestPromise15LongLevels makes level grammars of words of up to MaxLength letters.
func TestPromise15LongLevels(t *testing.T) {
	made := 0
	for k, w := range append(hugeWords(), shorterWords()...) {
		for l, g := range grammarsOf(t, w) {
			if levels(t, g) > impl.MaxRules {
				continue
			}
			made++
			level, _ := impl.LevelGrammar(g)
			if l%3 == k%3 {
				equal, code := impl.EqualWords(g, level)
				saysWhether(t, fmt.Sprintf("EqualWords of a level grammar of %.60s", w), equal, code, true)
			}
			for _, i := range w.somePlaces() {
				x, _ := impl.LetterAt(level, i)
				is(t, "a letter of a level grammar", w.letter(i), x)
			}
		}
	}
	if made < 100 {
		t.Errorf("only %d level grammars of long words are made", made)
	}
	for _, g := range []impl.Grammar{fullGrammar(), fibonacci(), doubled(gram(example), 40), thue(49)} {
		if most := levels(t, g); most > impl.MaxRules {
			t.Errorf("a level grammar needs %d rules", most)
		}
		level, code := impl.LevelGrammar(g)
		equal, same := impl.EqualWords(g, must(t, level, code))
		saysWhether(t, "EqualWords of a level grammar", equal, same, true)
		// It is level already: nothing is made of it again.
		twice, code := impl.LevelGrammar(level)
		sameGrammar(t, "LevelGrammar of a level grammar", twice, code, level)
	}
	for _, g := range manyGrammars() {
		levels(t, g)
	}
}

// TestPromise15Deepest checks that the words of Fibonacci grammars are as short as their depths allow.
func TestPromise15Deepest(t *testing.T) {
	g := fibonacci()
	for count := 2; count <= len(g.Rules); count++ {
		start := firstRules(g, count)
		level, code := impl.LevelGrammar(start)
		trimmed, _ := impl.TrimGrammar(start)
		sameGrammar(t, "LevelGrammar of a Fibonacci word", level, code, trimmed)
		depth, _ := impl.DepthOf(level)
		n, _ := impl.LengthOf(level)
		is(t, "the length of a Fibonacci word", fmt.Sprint(leastLength(int(depth))), n)
		// One letter more, or one less, and one that is put together in another way.
		for _, i := range []int64{0, 1, n / 2, n - 1} {
			levels(t, partOf(t, start, i, n))
			levels(t, partOf(t, start, 0, i))
		}
	}
	for n := range int64(impl.MaxRules) {
		for _, g := range []impl.Grammar{chain(int(n) + 1), turnedChain(int(n) + 1)} {
			levels(t, g)
		}
		w := strings.Repeat("a", int(n)+1)
		h, code := impl.HalvingGrammar(w)
		is(t, "halves", "0", code)
		yes, code := impl.IsLevel(h)
		saysWhether(t, "IsLevel of halves", yes, code, true)
	}
}

// turnedChain returns a chain from the other side.
func turnedChain(count int) impl.Grammar {
	g := chain(count)
	for number, rule := range g.Rules {
		g.Rules[number].Left, g.Rules[number].Right = rule.Right, rule.Left
	}
	return g
}
