package tests

import (
	"slices"
	"strings"

	"loop.example/g01133/impl"
)

// plainMaker is a function that makes a grammar of a plain word.
type plainMaker struct {
	name string
	make func(w string) (impl.Grammar, int64)
	// by returns the grammar that it should make, and the greatest number of rules on the way to it.
	by func(w string) (impl.Grammar, int)
}

// plainMakers returns the makers that chapter 6 tells of.
func plainMakers() []plainMaker {
	return []plainMaker{
		{"HalvingGrammar", impl.HalvingGrammar, halvedBy},
		{"RunsGrammar", impl.RunsGrammar, runJoinedBy},
		{"PairsGrammar", impl.PairsGrammar, pairedBy},
		{"PhraseGrammar", impl.PhraseGrammar, phrasedBy},
	}
}

// trimmed returns a trimmed grammar, and one with too many rules as it is.
func trimmed(g impl.Grammar) impl.Grammar {
	if len(g.Rules) > impl.MaxRules {
		return g
	}
	left, _ := impl.TrimGrammar(g)
	return left
}

// halvedBy returns the grammar that HalvingGrammar should make, from a list of the words that have been met.
func halvedBy(w string) (impl.Grammar, int) {
	var g impl.Grammar
	var met []string
	var meet func(w string) int
	meet = func(w string) int {
		if number := slices.Index(met, w); number >= 0 {
			return number
		}
		rule := letter(w)
		if len(w) > 1 {
			left := meet(w[:len(w)-len(w)/2])
			rule = pair(left, meet(w[len(w)-len(w)/2:]))
		}
		met = append(met, w)
		g.Rules = append(g.Rules, rule)
		return last(g)
	}
	if w != "" {
		meet(w)
	}
	return g, len(g.Rules)
}

// runJoinedBy returns the grammar that RunsGrammar should make, as far as there are not too many rules on the way.
func runJoinedBy(w string) (impl.Grammar, int) {
	var g impl.Grammar
	most := 0
	for w != "" && most <= impl.MaxRules {
		rest := strings.TrimLeft(w, w[:1])
		joined := joinedBy(g, poweredBy(rules(letter(w[:1])), int64(len(w)-len(rest))))
		most = max(most, len(joined.Rules))
		g, w = trimmed(joined), rest
	}
	return g, most
}

// lettersBy returns the rules of the letters of a word, in order, and the list of their numbers.
func lettersBy(w string) (impl.Grammar, []int) {
	var g impl.Grammar
	numbers := map[rune]int{}
	for _, x := range "abcd" {
		if strings.ContainsRune(w, x) {
			numbers[x] = len(g.Rules)
			g.Rules = append(g.Rules, letter(string(x)))
		}
	}
	var list []int
	for _, x := range w {
		list = append(list, numbers[x])
	}
	return g, list
}

// madeOne returns rules, and behind them the pairs that make a list of them one.
func madeOne(g impl.Grammar, list []int) impl.Grammar {
	for len(list) > 1 {
		g.Rules = append(g.Rules, pair(list[0], list[1]))
		list = append([]int{last(g)}, list[2:]...)
	}
	return g
}

// numberRun is a number that stands so many times one behind the other.
type numberRun struct{ number, times int }

// runsOfNumbers returns the runs of a list.
func runsOfNumbers(list []int) []numberRun {
	var runs []numberRun
	for _, n := range list {
		if len(runs) > 0 && runs[len(runs)-1].number == n {
			runs[len(runs)-1].times++
		} else {
			runs = append(runs, numberRun{n, 1})
		}
	}
	return runs
}

// mostOften returns the pair that occurs most often in a list, and how often. Equal numbers are
// counted by runs: two of them are passed over together, and the last one of an odd number stays.
func mostOften(list []int) ([2]int, int) {
	times := map[[2]int]int{}
	runs := runsOfNumbers(list)
	for k, r := range runs {
		times[[2]int{r.number, r.number}] += r.times / 2
		if k > 0 {
			times[[2]int{runs[k-1].number, r.number}]++
		}
	}
	best := [2]int{}
	for p, n := range times {
		first := p[0] < best[0] || p[0] == best[0] && p[1] < best[1]
		if n > times[best] || n == times[best] && first {
			best = p
		}
	}
	return best, times[best]
}

// pairedBy returns the grammar that PairsGrammar should make, counting all pairs again and again.
func pairedBy(w string) (impl.Grammar, int) {
	g, list := lettersBy(w)
	for {
		p, times := mostOften(list)
		if times < 2 {
			break
		}
		g.Rules = append(g.Rules, pair(p[0], p[1]))
		var shorter []int
		for k := 0; k < len(list); k++ {
			shorter = append(shorter, list[k])
			if k+1 < len(list) && list[k] == p[0] && list[k+1] == p[1] {
				shorter[len(shorter)-1] = last(g)
				k++
			}
		}
		list = shorter
	}
	g = madeOne(g, list)
	return trimmed(g), len(g.Rules)
}

// phrasesBy returns the phrases of a word, from a list of those that there are.
func phrasesBy(w string) []string {
	phrases := []string{}
	for w != "" {
		n := 1
		for n < len(w) && slices.Contains(phrases, w[:n]) {
			n++
		}
		phrases = append(phrases, w[:n])
		w = w[n:]
	}
	return phrases
}

// phrasedBy returns the grammar that PhraseGrammar should make.
func phrasedBy(w string) (impl.Grammar, int) {
	g, _ := lettersBy(w)
	numbers := map[string]int{}
	for number, rule := range g.Rules {
		numbers[rule.Letter] = number
	}
	var list []int
	for _, p := range phrasesBy(w) {
		if _, known := numbers[p]; !known {
			g.Rules = append(g.Rules, pair(numbers[p[:len(p)-1]], numbers[p[len(p)-1:]]))
			numbers[p] = last(g)
		}
		list = append(list, numbers[p])
	}
	g = madeOne(g, list)
	return trimmed(g), len(g.Rules)
}

// lone and again return factors, right or not.
func lone(text string) impl.Factor              { return impl.Factor{Letter: text} }
func again(from, length int64) impl.Factor      { return impl.Factor{From: from, Length: length} }
func factors(list ...impl.Factor) []impl.Factor { return list }

// lettersOnly returns a factor for each letter of a word.
func lettersOnly(w string) []impl.Factor {
	list := []impl.Factor{}
	for _, x := range w {
		list = append(list, lone(string(x)))
	}
	return list
}

// factorsBy returns the factors of a word, which has to be short, the longest ones being tried first.
func factorsBy(w string) []impl.Factor {
	list := []impl.Factor{}
	for place := 0; place < len(w); {
		f, n := lone(w[place:place+1]), 1
	tries:
		for length := min(place, len(w)-place); length > 0; length-- {
			for from := 0; from+length <= place; from++ {
				if w[from:from+length] == w[place:place+length] {
					f, n = again(int64(from), int64(length)), length
					break tries
				}
			}
		}
		list = append(list, f)
		place += n
	}
	return list
}

// factoredWord returns the word of factors, which has to be short, letter by letter.
func factoredWord(list []impl.Factor) string {
	var word []byte
	for _, f := range list {
		word = append(word, f.Letter...)
		for k := range f.Length {
			word = append(word, word[f.From+k])
		}
	}
	return string(word)
}

// factorLines returns the text of factors.
func factorLines(list []impl.Factor) string {
	g := impl.Grammar{}
	for _, f := range list {
		g.Rules = append(g.Rules, impl.Rule{Letter: f.Letter, Left: f.From, Right: f.Length})
	}
	return textOf(g)
}

// factorsMadeBy returns the grammar that FactorsGrammar should make of a short word, as far as there are
// not too many rules on the way, and the greatest number of them.
func factorsMadeBy(list []impl.Factor) (impl.Grammar, int) {
	var g impl.Grammar
	most := 0
	for _, f := range list {
		next := rules(letter(f.Letter))
		if f.Letter == "" {
			next = partBy(g, int(f.From), int(f.From+f.Length))
		}
		joined := joinedBy(g, next)
		most = max(most, len(next.Rules), len(joined.Rules))
		g = trimmed(joined)
		if most > impl.MaxRules {
			break
		}
	}
	return g, most
}

// smallFactors returns all valid lists of at most so many factors with the letters "a" and "b".
func smallFactors(most int) [][]impl.Factor {
	lists := [][]impl.Factor{{}}
	longest := lists
	for range most {
		var longer [][]impl.Factor
		for _, list := range longest {
			options := factors(lone("a"), lone("b"))
			n := int64(len(factoredWord(list)))
			for from := range n {
				for length := int64(1); from+length <= n; length++ {
					options = append(options, again(from, length))
				}
			}
			for _, option := range options {
				longer = append(longer, append(slices.Clone(list), option))
			}
		}
		lists = append(lists, longer...)
		longest = longer
	}
	return lists
}

// mixedFactors returns valid factors with so many further ones behind them, without an evident order: some letters,
// and repetitions of at most this length, as far as the word does not become longer than MaxLength.
func mixedFactors(start []impl.Factor, count int, most int64, seed uint32) []impl.Factor {
	next := mixing(seed)
	made, n := slices.Clone(start), factoredLength(start)
	for range count {
		if n < 3 || next(4) == 0 {
			made = append(made, lone("abcd"[next(4):][:1]))
			n++
			continue
		}
		length := 1 + int64(next(65536))*(min(n, most)-1)/65535
		from := (n - length) / 16 * int64(next(17))
		length = min(length, impl.MaxLength-n)
		made = append(made, again(from, length))
		n += length
	}
	return made
}

// factoredLength returns the length of the word of factors.
func factoredLength(list []impl.Factor) int64 {
	n := int64(0)
	for _, f := range list {
		n += int64(len(f.Letter)) + f.Length
	}
	return n
}

// doublings returns the factors of the word so often as 2 to this power.
func doublings(w string, times int) []impl.Factor {
	list, n := lettersOnly(w), int64(len(w))
	for range times {
		list = append(list, again(0, n))
		n *= 2
	}
	return list
}

// fullFactors returns factors of exactly MaxLength letters.
func fullFactors() []impl.Factor {
	return append(doublings("ab", 48), again(0, impl.MaxLength-1<<49))
}

// longFactors returns valid lists of words that cannot be unpacked, with few rules on the way.
func longFactors() [][]impl.Factor {
	lists := [][]impl.Factor{fullFactors(), doublings("a", 49), doublings("abaab", 47), append(doublings("abc", 40), again(1, 3<<40-2), lone("d"), again(7, 3<<40))}
	for seed := range uint32(12) {
		start := doublings(mixedWord("abcd", 3+int(seed), seed), 8+int(seed)*3)
		lists = append(lists, mixedFactors(start, 3+int(seed)%4, 1<<43, seed*977+5))
	}
	// Each one repeats what is there but for its first letter, or its last one.
	for _, k := range []int64{0, 1} {
		list, n := lettersOnly("abcab"), int64(5)
		for 2*n < impl.MaxLength && len(list) < 30 {
			list = append(list, again(k, n-1))
			n += n - 1
		}
		lists = append(lists, list)
	}
	return lists
}

// invalidFactors returns lists of factors that are not valid, for different reasons.
func invalidFactors() [][]impl.Factor {
	wrong := [][]impl.Factor{
		factors(impl.Factor{}),
		factors(again(0, 1)),
		factors(again(1, 0), lone("a")),
		factors(again(0, 1), lone("a")),
		lettersOnly(strings.Repeat("a", impl.MaxFactors+1)),
		lettersOnly(strings.Repeat("ab", 150000)),
		make([]impl.Factor, 300000),
		append(fullFactors(), lone("a")),
		append(fullFactors(), again(0, 1)),
		append(fullFactors(), again(0, impl.MaxLength)),
		append(fullFactors(), lone("e")),
		append(doublings("ab", 48), again(0, impl.MaxLength-1<<49+1)),
		doublings("a", 50), doublings("a", 62), doublings("a", 63), doublings("a", 64), doublings("a", 65), doublings("a", 119), doublings("aaa", 117),
	}
	for _, text := range append(noLetters(), "\xff", "0 1", "\n") {
		if text != "" {
			wrong = append(wrong, factors(lone(text)), append(lettersOnly("ab"), lone(text), lone("a")))
		}
	}
	for _, f := range []impl.Factor{
		{Letter: "a", From: 1}, {Letter: "a", Length: 1}, {Letter: "b", From: -1}, {Letter: "d", Length: -1}, {Letter: "a", From: 1, Length: 1}, {Letter: "a", From: -1, Length: 1},
		{Letter: "a", From: greatest}, {Letter: "a", Length: least}, {Letter: "e", From: 0, Length: 1},
		again(-1, 1), again(-1, 2), again(-1, 3), again(-1, 4), again(0, 0), again(1, 0), again(3, 0), again(0, -1), again(2, -1), again(-1, -1),
		again(0, 4), again(1, 3), again(2, 2), again(3, 1), again(4, 1), again(4, -1), again(1<<32, 1), again(0, 1<<32+1),
		again(0, greatest), again(1, greatest), again(2, greatest), again(3, greatest), again(greatest, 1), again(greatest, 2), again(greatest, 3), again(greatest, greatest),
		again(0, least), again(1, least), again(3, least), again(least, 0), again(least, 1), again(least, least), again(least, greatest), again(greatest, least),
		again(impl.MaxLength, 1), again(0, impl.MaxLength), again(impl.MaxLength, impl.MaxLength),
	} {
		wrong = append(wrong, append(lettersOnly("aba"), f), append(lettersOnly("aba"), f, lone("a"), again(0, 1)))
	}
	return wrong
}

// levelTree is a rule of a level grammar as it is made.
type levelTree struct {
	letter      string
	left, right *levelTree
	depth       int
	number      int
}

// levelForest has trees, each of them once, in the order in which they are made.
type levelForest struct {
	all  map[levelTree]*levelTree
	made []*levelTree
}

func (f *levelForest) leaf(letter string) *levelTree {
	return f.find(levelTree{letter: letter}, 1)
}

func (f *levelForest) pair(left, right *levelTree) *levelTree {
	return f.find(levelTree{left: left, right: right}, 1+max(left.depth, right.depth))
}

func (f *levelForest) find(key levelTree, depth int) *levelTree {
	if f.all[key] == nil {
		made := key
		made.depth, made.number = depth, len(f.made)
		f.all[key] = &made
		f.made = append(f.made, &made)
	}
	return f.all[key]
}

// level gives what levelling two trees gives, step by step as chapter 6 says.
func (f *levelForest) level(x, y *levelTree) *levelTree {
	if x.depth-y.depth <= 1 && y.depth-x.depth <= 1 {
		return f.pair(x, y)
	}
	if x.depth > y.depth {
		a, b := x.left, x.right
		z := f.level(b, y)
		if z.depth <= a.depth+1 {
			return f.pair(a, z)
		}
		c, d := z.left, z.right
		if c.depth > d.depth {
			e, g := c.left, c.right
			one := f.pair(a, e)
			two := f.pair(g, d)
			return f.pair(one, two)
		}
		one := f.pair(a, c)
		return f.pair(one, d)
	}
	b, a := y.left, y.right
	z := f.level(x, b)
	if z.depth <= a.depth+1 {
		return f.pair(z, a)
	}
	d, c := z.left, z.right
	if c.depth > d.depth {
		g, e := c.left, c.right
		one := f.pair(d, g)
		two := f.pair(e, a)
		return f.pair(one, two)
	}
	two := f.pair(c, a)
	return f.pair(d, two)
}

// levelledBy returns the grammar that LevelGrammar should make before it is trimmed, and how many rules there are on the way.
func levelledBy(g impl.Grammar) (impl.Grammar, int) {
	f := &levelForest{all: map[levelTree]*levelTree{}}
	var trees []*levelTree
	for _, rule := range g.Rules {
		if rule.Letter != "" {
			trees = append(trees, f.leaf(rule.Letter))
		} else {
			trees = append(trees, f.level(trees[rule.Left], trees[rule.Right]))
		}
	}
	var made impl.Grammar
	for _, tree := range f.made {
		if tree.letter != "" {
			made.Rules = append(made.Rules, letter(tree.letter))
		} else {
			made.Rules = append(made.Rules, pair(tree.left.number, tree.right.number))
		}
	}
	if len(trees) > 0 {
		made.Rules = made.Rules[:trees[len(trees)-1].number+1]
	}
	return made, len(f.made)
}

// onlyUsed returns a grammar, no two rules of which are equal, without the rules of which the last one is not made.
func onlyUsed(g impl.Grammar) impl.Grammar {
	used := make([]bool, len(g.Rules))
	for number := last(g); number >= 0; number-- {
		rule := g.Rules[number]
		used[number] = used[number] || number == last(g)
		if used[number] && rule.Letter == "" {
			used[rule.Left], used[rule.Right] = true, true
		}
	}
	var left impl.Grammar
	places := make([]int, len(g.Rules))
	for number, rule := range g.Rules {
		if !used[number] {
			continue
		}
		if rule.Letter == "" {
			rule = pair(places[rule.Left], places[rule.Right])
		}
		places[number] = len(left.Rules)
		left.Rules = append(left.Rules, rule)
	}
	return left
}

// depthsBy returns the depths of all rules.
func depthsBy(g impl.Grammar) []int {
	var depths []int
	for _, rule := range g.Rules {
		depth := 1
		if rule.Letter == "" {
			depth += max(depths[rule.Left], depths[rule.Right])
		}
		depths = append(depths, depth)
	}
	return depths
}

// levelBy reports whether a grammar is level.
func levelBy(g impl.Grammar) bool {
	depths := depthsBy(g)
	for _, rule := range g.Rules {
		if rule.Letter == "" && max(depths[rule.Left]-depths[rule.Right], depths[rule.Right]-depths[rule.Left]) > 1 {
			return false
		}
	}
	return true
}

// leastLength returns the number with the number d in the list 1, 2, 3, 5, 8, ..., and 0 for d = 0.
func leastLength(d int) int64 {
	one, two := int64(0), int64(1)
	for k := range d {
		one, two = two, one+two
		if k == 0 {
			two = 2
		}
	}
	return one
}
