package tests

import (
	"fmt"
	"slices"
	"strconv"
	"strings"
	"testing"

	"loop.example/g01133/impl"
)

// example is the text of the grammar that the specification uses in its examples.
const example = "a\nb\n0 1\n2 0\n3 2\n"

// letter and pair return rules, right or not.
func letter(text string) impl.Rule   { return impl.Rule{Letter: text} }
func pair(left, right int) impl.Rule { return impl.Rule{Left: int64(left), Right: int64(right)} }

// rules returns the grammar with some rules, and last the number of its last one.
func rules(list ...impl.Rule) impl.Grammar { return impl.Grammar{Rules: list} }
func last(g impl.Grammar) int              { return len(g.Rules) - 1 }

// gram returns the grammar with a text, without ReadGrammar.
func gram(text string) impl.Grammar {
	var g impl.Grammar
	for _, line := range strings.Split(strings.TrimSuffix(text, "\n"), "\n") {
		if words := strings.Split(line, " "); len(words) == 2 {
			left, _ := strconv.Atoi(words[0])
			right, _ := strconv.Atoi(words[1])
			g.Rules = append(g.Rules, pair(left, right))
		} else if line != "" {
			g.Rules = append(g.Rules, letter(line))
		}
	}
	return g
}

// textOf returns the text of a grammar, without GrammarText.
func textOf(g impl.Grammar) string {
	var text strings.Builder
	for _, rule := range g.Rules {
		if rule.Letter != "" {
			fmt.Fprintln(&text, rule.Letter)
		} else {
			fmt.Fprintln(&text, rule.Left, rule.Right)
		}
	}
	return text.String()
}

// wordsOf returns the words of all rules, which have to be short, letter by letter.
func wordsOf(g impl.Grammar) []string {
	var words []string
	for _, rule := range g.Rules {
		word := rule.Letter
		if word == "" {
			word = words[rule.Left] + words[rule.Right]
		}
		words = append(words, word)
	}
	return words
}

// wordOf returns the word of a grammar, which has to be short; those of unused rules may be long.
func wordOf(g impl.Grammar) string {
	var word strings.Builder
	var write func(number int64)
	write = func(number int64) {
		if rule := g.Rules[number]; rule.Letter != "" {
			word.WriteString(rule.Letter)
		} else {
			write(rule.Left)
			write(rule.Right)
		}
	}
	if len(g.Rules) > 0 {
		write(int64(last(g)))
	}
	return word.String()
}

// smallGrammars returns all grammars of the letters "a" and "b" with at most so many rules.
func smallGrammars(most int) []impl.Grammar {
	grammars := []impl.Grammar{{}}
	longest := grammars
	for number := range most {
		var longer []impl.Grammar
		for _, g := range longest {
			options := []impl.Rule{letter("a"), letter("b")}
			for left := range number {
				for right := range number {
					options = append(options, pair(left, right))
				}
			}
			for _, option := range options {
				longer = append(longer, rules(append(append([]impl.Rule{}, g.Rules...), option)...))
			}
		}
		grammars = append(grammars, longer...)
		longest = longer
	}
	return grammars
}

// mixedGrammar returns a grammar without an evident order, whose words have at
// most so many letters, always the same for the same arguments.
func mixedGrammar(count, length int, seed uint32) impl.Grammar {
	next := func(n int) int {
		seed = seed*1664525 + 1013904223
		return int(seed>>16) % n
	}
	var g impl.Grammar
	var lengths []int
	for number := range count {
		// Rules that are near are taken more often, so that words become long.
		rule, size := letter("abcd"[number%4:number%4+1]), 1
		if number > 3 || number > 0 && next(3) > 0 {
			left, right := number-1-next(min(number, 4)), next(number)
			if next(2) == 0 {
				left, right = right, left
			}
			if sum := lengths[left] + lengths[right]; sum <= length {
				rule, size = pair(left, right), sum
			}
		}
		g.Rules = append(g.Rules, rule)
		lengths = append(lengths, size)
	}
	return g
}

// mixedGrammars returns grammars without an evident order, of all sizes up to this one.
func mixedGrammars(most, length int) []impl.Grammar {
	var grammars []impl.Grammar
	for seed := range 200 {
		grammars = append(grammars, mixedGrammar(1+seed%most, length, uint32(seed*7919)))
	}
	return grammars
}

// someGrammars returns valid grammars whose words can be unpacked.
func someGrammars() []impl.Grammar {
	grammars := append(smallGrammars(4), mixedGrammars(30, 300)...)
	return append(grammars, gram(example), gram("d\n"), gram("a\na\n0 1\n2 2\n"))
}

// chain returns a grammar of so many letters "a" that has as many rules.
func chain(count int) impl.Grammar {
	g := rules(letter("a"))
	for len(g.Rules) < count {
		g.Rules = append(g.Rules, pair(last(g), 0))
	}
	return g
}

// doubled returns a grammar with one more rule so many times, each the pair of the last one with itself.
func doubled(g impl.Grammar, times int) impl.Grammar {
	for range times {
		g.Rules = append(g.Rules[:len(g.Rules):len(g.Rules)], pair(last(g), last(g)))
	}
	return g
}

// fullGrammar returns a grammar of exactly MaxLength letters: the digits of
// this number in the base 2 tell which powers of "ab" it is made of.
func fullGrammar() impl.Grammar {
	g := rules(letter("a"), letter("b"), pair(0, 1))
	g = doubled(g, 48)
	whole := -1
	for digit := range 49 {
		if int64(impl.MaxLength)/2>>digit&1 == 0 {
			continue
		}
		if whole >= 0 {
			g.Rules = append(g.Rules, pair(whole, 2+digit))
			whole = last(g)
		} else {
			whole = 2 + digit
		}
	}
	return g
}

// fibonacci returns the grammar of the longest Fibonacci word that is not too long.
func fibonacci() impl.Grammar {
	g := rules(letter("b"), letter("a"))
	for one, two := int64(1), int64(1); one+two <= impl.MaxLength; one, two = two, one+two {
		g.Rules = append(g.Rules, pair(last(g), last(g)-1))
	}
	return g
}

// longGrammars returns valid grammars whose words cannot be unpacked, or that have as many rules as can be.
func longGrammars() []impl.Grammar {
	return []impl.Grammar{fullGrammar(), fibonacci(), doubled(rules(letter("c")), 49), chain(impl.MaxRules), doubled(rules(letter("d")), 11),
		mixedGrammar(impl.MaxRules, 1900, 5), mixedGrammar(impl.MaxRules, impl.MaxLength, 6)}
}

// invalidGrammars returns grammars that are not valid, for different reasons.
func invalidGrammars() []impl.Grammar {
	huge := fullGrammar()
	huge.Rules = append(huge.Rules, letter("a"), pair(last(huge), last(huge)+1))
	return []impl.Grammar{
		rules(impl.Rule{}),
		rules(pair(0, 0)),
		rules(pair(-1, -1)),
		rules(letter("e")),
		rules(letter("A")),
		rules(letter("ab")),
		rules(letter("`")),
		rules(letter("\x00")),
		rules(letter("a"), letter("ä")),
		rules(impl.Rule{Letter: "a", Left: 1}),
		rules(letter("a"), impl.Rule{Letter: "a", Right: 1}),
		rules(letter("a"), impl.Rule{Letter: "a", Left: -1, Right: 1}),
		rules(letter("a"), pair(0, 0), impl.Rule{Letter: "b", Left: 1, Right: 1}),
		rules(letter("a"), impl.Rule{Letter: "e", Left: 0, Right: 0}),
		rules(letter("a"), pair(1, 0)),
		rules(letter("a"), pair(0, 1)),
		rules(letter("a"), pair(2, 0), letter("b")),
		rules(letter("a"), pair(0, -1)),
		rules(letter("a"), pair(-1, 0)),
		rules(letter("a"), impl.Rule{Left: greatest, Right: least}),
		rules(letter("a"), impl.Rule{Left: least, Right: greatest}),
		rules(letter("a"), impl.Rule{Left: 1 << 32, Right: 1 << 32}),
		rules(pair(1, 1), letter("a")),
		huge,
		rules(append(huge.Rules, letter("a"))...),
		doubled(rules(letter("a")), 50),
		doubled(rules(letter("a")), 62),
		doubled(rules(letter("a")), 63),
		doubled(rules(letter("a")), 64),
		doubled(rules(letter("a")), 399),
		chain(impl.MaxRules + 1),
		rules(make([]impl.Rule, 300000)...),
		chain(300000),
	}
}

// treesOf returns for each rule what it is in the end: letters in brackets.
// Rules are equal, when those before have been made one, if these texts are.
func treesOf(g impl.Grammar) []string {
	var trees []string
	for _, rule := range g.Rules {
		tree := rule.Letter
		if tree == "" {
			tree = "(" + trees[rule.Left] + trees[rule.Right] + ")"
		}
		trees = append(trees, tree)
	}
	return trees
}

// trimmedBy returns the grammar that TrimGrammar should make, from the trees of the rules.
func trimmedBy(g impl.Grammar) impl.Grammar {
	if len(g.Rules) == 0 {
		return impl.Grammar{}
	}
	trees := treesOf(g)
	whole := trees[len(trees)-1]
	numbers := map[string]int{}
	var left impl.Grammar
	for number, tree := range trees {
		if _, met := numbers[tree]; met || !strings.Contains(whole, tree) {
			continue
		}
		rule := g.Rules[number]
		if rule.Letter == "" {
			rule = pair(numbers[trees[rule.Left]], numbers[trees[rule.Right]])
		}
		numbers[tree] = len(left.Rules)
		left.Rules = append(left.Rules, rule)
	}
	return left
}

// sameGrammar holds a grammar and a code against what they should be.
func sameGrammar(t *testing.T, name string, g impl.Grammar, code int64, want impl.Grammar) {
	t.Helper()
	if got := textOf(g); code != impl.OK || got != textOf(want) {
		t.Errorf("%s: got %.300q and the code %d, want %.300q", name, got, code, textOf(want))
	}
}

// withSpare returns the rules of a grammar with further ones behind them, and unused memory.
func withSpare(g impl.Grammar) []impl.Rule {
	spare := impl.Rule{Letter: "spare", Left: -7, Right: -8}
	return append(append(make([]impl.Rule, 0, len(g.Rules)+900), g.Rules...), spare, spare, spare)
}

// hasSpare checks that what withSpare has returned for a grammar is still the same.
func hasSpare(t *testing.T, name string, given []impl.Rule, g impl.Grammar) {
	t.Helper()
	if !slices.Equal(given[:cap(given)], withSpare(g)[:cap(given)]) {
		t.Errorf("%s has changed a grammar", name)
	}
}
