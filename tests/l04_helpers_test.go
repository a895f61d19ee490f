package tests

import (
	"fmt"
	"slices"
	"strings"

	"loop.example/g01133/impl"
)

// auto returns an automaton that starts with 0.
func auto(finals []int64, next ...[]int64) impl.Auto {
	return impl.Auto{States: int64(len(next)), Finals: finals, Next: next}
}

// mixing returns numbers less than n without an evident order, always the same for the same seed.
func mixing(seed uint32) func(n int) int {
	return func(n int) int {
		seed = seed*1664525 + 1013904223
		return int(seed>>16) % n
	}
}

// mixedAuto returns an automaton without an evident order, always the same for the same arguments.
func mixedAuto(states int, seed uint32) impl.Auto {
	next := mixing(seed)
	a := impl.Auto{States: int64(states), Start: int64(next(states))}
	for s := range states {
		if next(3) == 0 {
			a.Finals = append(a.Finals, int64(s))
		}
		list := []int64{}
		for range 4 {
			list = append(list, int64(next(states)))
		}
		a.Next = append(a.Next, list)
	}
	return a
}

// ring returns an automaton in which all letters lead to the next state, and from the last one to the state 0.
func ring(states int, finals ...int64) impl.Auto {
	a := auto(finals)
	for s := range states {
		a.Next = append(a.Next, slices.Repeat([]int64{int64((s + 1) % states)}, 4))
	}
	a.States = int64(states)
	return a
}

// allStates returns the numbers of so many states.
func allStates(states int) []int64 {
	list := []int64{}
	for s := range states {
		list = append(list, int64(s))
	}
	return list
}

// smallAutos returns all automata of one state or two for which "c" and "d" are as "a" and "b".
func smallAutos() []impl.Auto {
	autos := []impl.Auto{auto(nil, []int64{0, 0, 0, 0}), auto([]int64{0}, []int64{0, 0, 0, 0})}
	for k := range int64(1 << 7) {
		bit := func(n int) int64 { return k >> n & 1 }
		a := auto(nil, []int64{bit(0), bit(1), bit(0), bit(1)}, []int64{bit(2), bit(3), bit(2), bit(3)})
		a.Start = bit(4)
		for s := range int64(2) {
			if bit(5+int(s)) == 1 {
				a.Finals = append(a.Finals, s)
			}
		}
		autos = append(autos, a)
	}
	return autos
}

// someAutos returns valid automata of all sizes.
func someAutos() []impl.Auto {
	autos := append(smallAutos(), ring(impl.MaxAutoStates), ring(impl.MaxAutoStates, allStates(impl.MaxAutoStates)...), ring(7, 0, 6))
	for states := range impl.MaxAutoStates {
		for seed := range 3 {
			autos = append(autos, mixedAuto(states+1, uint32(states*31+seed*977)))
		}
	}
	return autos
}

// longAutos returns automata for long words: some that go around, some that stay, some with states that are never reached.
func longAutos() []impl.Auto {
	stays := ring(5, 4)
	stays.Next[4] = []int64{4, 4, 4, 4}
	parity := auto([]int64{1, 2}, []int64{1, 2, 0, 0}, []int64{0, 3, 1, 1}, []int64{3, 0, 2, 2}, []int64{2, 1, 3, 3}, []int64{0, 1, 2, 3})
	return []impl.Auto{ring(1), ring(1, 0), ring(24, 5, 23), ring(23, 0), stays, parity, mixedAuto(24, 1), mixedAuto(24, 5), mixedAuto(9, 6), mixedAuto(17, 11)}
}

// changedNext returns copies of lists of states, each of which is wrong in another way.
func changedNext(next [][]int64) [][][]int64 {
	states := int64(len(next))
	var wrong [][][]int64
	change := func(by func(list []int64) []int64) {
		for _, s := range []int{0, len(next) - 1} {
			made := [][]int64{}
			for k, list := range next {
				list = slices.Clone(list)
				if k == s {
					list = by(list)
				}
				made = append(made, list)
			}
			wrong = append(wrong, made)
		}
	}
	for _, bad := range []int64{-1, states, states + 1, least, greatest, 1 << 32} {
		for _, l := range []int{0, 3} {
			change(func(list []int64) []int64 { list[l] = bad; return list })
		}
	}
	change(func(list []int64) []int64 { return nil })
	change(func(list []int64) []int64 { return list[:3] })
	change(func(list []int64) []int64 { return append(list, 0) })
	change(func(list []int64) []int64 { return make([]int64, 999000) })
	return append(wrong, nil, next[:len(next)-1], append(slices.Clone(next), next[0]), slices.Repeat([][]int64{next[0]}, 24+len(next)), make([][]int64, 1000000))
}

// invalidAutos returns automata that are not valid, for different reasons.
func invalidAutos() []impl.Auto {
	fine := ring(5, 1, 3)
	var wrong []impl.Auto
	for _, next := range changedNext(fine.Next) {
		wrong = append(wrong, impl.Auto{States: 5, Finals: []int64{1}, Next: next})
	}
	for _, finals := range [][]int64{{-1}, {5}, {least}, {greatest}, {0, 5}, {-1, 0}, {1, 1}, {2, 1}, {0, 1, 3, 2}, {0, 1, 2, 3, 4, 4}, {0, 1, 2, 3, 4, 5}, make([]int64, 999000)} {
		wrong = append(wrong, impl.Auto{States: 5, Finals: finals, Next: fine.Next})
	}
	for _, start := range []int64{-1, 5, 6, least, greatest} {
		wrong = append(wrong, impl.Auto{States: 5, Start: start, Finals: fine.Finals, Next: fine.Next})
	}
	for _, states := range []int64{-5, -1, 0, 1, 4, 6, 24, 25, least, greatest} {
		wrong = append(wrong, impl.Auto{States: states, Next: fine.Next})
	}
	return append(wrong, impl.Auto{}, ring(0), ring(25), ring(25, 24), impl.Auto{States: -1}, impl.Auto{States: 1, Next: [][]int64{{}}}, impl.Auto{States: 1000000, Next: make([][]int64, 1000000)})
}

// autoTextOf returns the text of an automaton, valid or not, without AutoText.
func autoTextOf(a impl.Auto) string {
	line := func(word string, numbers []int64) string {
		return strings.TrimSuffix(fmt.Sprintln(word, strings.Trim(fmt.Sprint(numbers), "[]")), "\n")
	}
	lines := []string{line("auto", []int64{a.States, a.Start}), strings.TrimSuffix(line("finals", a.Finals), " ")}
	for _, list := range a.Next {
		lines = append(lines, line("state", list))
	}
	return strings.Join(lines, "\n") + "\n"
}

// copiedAuto returns a copy of an automaton with further numbers behind its lists in memory.
func copiedAuto(a impl.Auto) impl.Auto {
	a.Finals, a.Next = roomy(a.Finals, -7), roomy(a.Next, []int64{-8})
	for s, list := range a.Next {
		a.Next[s] = roomy(list, -9)
	}
	return a
}

// roomy returns a copy of a list with further elements behind it in memory.
func roomy[Element any](list []Element, spare Element) []Element {
	made := append(append(make([]Element, 0, len(list)+5), list...), spare, spare, spare)
	return made[:len(list)]
}

// memoryOf tells all that is in the memory of a list, and memoryOfAuto and memoryOfCoder what is in that of their lists.
func memoryOf[Element any](list []Element) string {
	return fmt.Sprintf("%d %v\n", len(list), list[:cap(list)])
}

func memoryOfAuto(a impl.Auto) string {
	text := fmt.Sprintln(a.States, a.Start) + memoryOf(a.Finals) + memoryOf(a.Next)
	for _, list := range a.Next {
		text += memoryOf(list)
	}
	return text
}

func memoryOfCoder(m impl.Coder) string {
	text := fmt.Sprintln(m.States, m.Start) + memoryOf(m.Next) + memoryOf(m.Out)
	for _, list := range m.Next {
		text += memoryOf(list)
	}
	for _, list := range m.Out {
		text += memoryOf(list)
	}
	return text
}

// statesBehind returns the states behind 0 letters of a word, 1 letter, and so on, letter by letter.
func statesBehind(next [][]int64, s int64, w string) []int64 {
	states := []int64{s}
	for _, letter := range w {
		s = next[s][letter-'a']
		states = append(states, s)
	}
	return states
}

// journey is what is met when an automaton reads a long word.
type journey struct {
	end    int64
	visits []int64 // how many letters there are behind which each state is met
	first  []int64 // the least number of letters, -1 if there is none
}

// journeyOf reads pieces: each one word by word until a state comes again at the beginning of a word,
// from where on it goes around.
func journeyOf(a impl.Auto, s int64, w pieces) journey {
	j := journey{s, make([]int64, a.States), slices.Repeat([]int64{-1}, int(a.States))}
	j.first[s] = 0
	read := int64(0)
	word := func(text string, times int64) {
		for k, s := range statesBehind(a.Next, j.end, text)[1:] {
			j.visits[s] += times
			if j.first[s] < 0 {
				j.first[s] = read + int64(k) + 1
			}
			j.end = s
		}
		read += int64(len(text)) * times
	}
	for _, p := range w {
		met := []int64{}
		left := p.times
		for ; left > 0 && !slices.Contains(met, j.end); left-- {
			met = append(met, j.end)
			word(p.word, 1)
		}
		if left == 0 {
			continue
		}
		round := met[slices.Index(met, j.end):]
		size := int64(len(round))
		for range size {
			// Once in each round, and once more in the one that is not whole.
			at := int64(slices.Index(round, j.end))
			times := left / size
			if at < left%size {
				times++
			}
			word(p.word, times)
		}
		j.end = round[left%size]
	}
	return j
}

// mixedCoder returns a coder without an evident order, some of whose words are empty.
func mixedCoder(states int, seed uint32) impl.Coder {
	a, next := mixedAuto(states, seed), mixing(seed+77)
	m := impl.Coder{States: a.States, Start: a.Start, Next: a.Next}
	for range states {
		list := []string{}
		for range 4 {
			list = append(list, mixedWord("abcd", max(0, next(impl.MaxOut+3)-2), uint32(next(1000))))
		}
		m.Out = append(m.Out, list)
	}
	return m
}

// oneState returns the coder of one state that writes these words.
func oneState(out ...string) impl.Coder {
	return impl.Coder{States: 1, Next: [][]int64{{0, 0, 0, 0}}, Out: [][]string{out}}
}

// twoStates returns the coder that changes its state with each letter, and writes these words.
func twoStates(one, two []string) impl.Coder {
	return impl.Coder{States: 2, Next: ring(2).Next, Out: [][]string{one, two}}
}

// someCoders returns valid coders of all sizes.
func someCoders() []impl.Coder {
	same := []string{"a", "b", "c", "d"}
	coders := []impl.Coder{
		oneState(same...), oneState("", "", "", ""), oneState("", "b", "", "d"), oneState("abcdab", "dcbadc", "aaaaaa", "d"), oneState("a", "", "", ""),
		twoStates(same, []string{"", "", "", ""}), twoStates([]string{"", "", "", ""}, same), twoStates(same, []string{"a", "a", "a", "a"}),
		twoStates([]string{"ab", "", "cd", ""}, []string{"", "ba", "", "dc"}), {States: 24, Start: 23, Next: ring(24).Next, Out: slices.Repeat([][]string{same}, 24)},
	}
	for states := range impl.MaxAutoStates {
		for seed := range 2 {
			coders = append(coders, mixedCoder(states+1, uint32(states*53+seed*991)))
		}
	}
	return coders
}

// invalidCoders returns coders that are not valid, for different reasons.
func invalidCoders() []impl.Coder {
	fine := mixedCoder(5, 3)
	var wrong []impl.Coder
	for _, next := range changedNext(fine.Next) {
		wrong = append(wrong, impl.Coder{States: 5, Next: next, Out: fine.Out})
	}
	for _, out := range [][]string{nil, {}, {"", "", ""}, {"", "", "", "", ""}, {"abcdabc", "", "", ""}, {"", "", "", "aaaaaaa"}, {"", "e", "", ""}, {"", "", "abcdae", ""}, {"A", "", "", ""},
		{"", "", "", " "}, {"ä", "", "", ""}, {"", "\xff", "", ""}, {strings.Repeat("a", 2001), "", "", ""}, {"", "", "", strings.Repeat("a", 1000000)}, make([]string, 999000)} {
		for _, s := range []int{0, 4} {
			lists := slices.Clone(fine.Out)
			lists[s] = out
			wrong = append(wrong, impl.Coder{States: 5, Next: fine.Next, Out: lists})
		}
	}
	for _, out := range [][][]string{nil, {}, fine.Out[:4], append(slices.Clone(fine.Out), fine.Out[0]), make([][]string, 999000)} {
		wrong = append(wrong, impl.Coder{States: 5, Next: fine.Next, Out: out})
	}
	for _, start := range []int64{-1, 5, least, greatest} {
		wrong = append(wrong, impl.Coder{States: 5, Start: start, Next: fine.Next, Out: fine.Out})
	}
	for _, states := range []int64{-1, 0, 4, 6, 25, least, greatest} {
		wrong = append(wrong, impl.Coder{States: states, Next: fine.Next, Out: fine.Out})
	}
	return append(wrong, impl.Coder{}, mixedCoder(25, 1), impl.Coder{States: 1, Next: [][]int64{{0, 0, 0, 0}}})
}

// copiedCoder returns a copy of a coder with further elements behind its lists in memory.
func copiedCoder(m impl.Coder) impl.Coder {
	m.Next, m.Out = roomy(m.Next, []int64{-8}), roomy(m.Out, []string{"spare"})
	for s, list := range m.Next {
		m.Next[s] = roomy(list, -9)
	}
	for s, list := range m.Out {
		m.Out[s] = roomy(list, "spare")
	}
	return m
}

// codeBy returns the code of a word that is read from a state, letter by letter, and the state behind it.
func codeBy(m impl.Coder, s int64, w string) (string, int64) {
	var code strings.Builder
	for _, letter := range w {
		code.WriteString(m.Out[s][letter-'a'])
		s = m.Next[s][letter-'a']
	}
	return code.String(), s
}

// codeOfPieces returns the code of a long word as pieces: each piece word by word until a state comes again.
func codeOfPieces(m impl.Coder, w pieces) pieces {
	var made pieces
	s := m.Start
	word := func(text string) string {
		code, end := codeBy(m, s, text)
		s = end
		return code
	}
	for _, p := range w {
		met, codes := []int64{}, []string{}
		left := p.times
		for ; left > 0 && !slices.Contains(met, s); left-- {
			met = append(met, s)
			codes = append(codes, word(p.word))
			made = append(made, piece{codes[len(codes)-1], 1})
		}
		if left == 0 {
			continue
		}
		round := codes[slices.Index(met, s):]
		size := int64(len(round))
		made = append(made, piece{strings.Join(round, ""), left / size})
		for range left % size {
			made = append(made, piece{word(p.word), 1})
		}
	}
	return made.tidy()
}

// met is a rule that is met in a state.
type met struct{ number, state int64 }

// codeRulesBy returns the rules of CodeGrammar before trimming: first it reads the word of each rule that
// is met, from the last one down, and then it treats them in order.
func codeRulesBy(m impl.Coder, g impl.Grammar) impl.Grammar {
	words := wordsOf(g)
	all := map[met]bool{}
	var meet func(x met)
	meet = func(x met) {
		if rule := g.Rules[x.number]; !all[x] && rule.Letter == "" {
			_, behind := codeBy(m, x.state, words[rule.Left])
			meet(met{rule.Left, x.state})
			meet(met{rule.Right, behind})
		}
		all[x] = true
	}
	if len(g.Rules) > 0 {
		meet(met{int64(last(g)), m.Start})
	}
	var made impl.Grammar
	stands := map[met]int{}
	for number, rule := range g.Rules {
		for s := range m.States {
			x := met{int64(number), s}
			if !all[x] {
				continue
			}
			_, behind := codeBy(m, s, words[max(0, rule.Left)])
			left, one := stands[met{rule.Left, s}]
			right, two := stands[met{rule.Right, behind}]
			switch {
			case rule.Letter != "":
				word, _ := codeBy(m, s, rule.Letter)
				before := len(made.Rules)
				for _, r := range plainBy(word).Rules {
					if r.Letter == "" {
						r = pair(int(r.Left)+before, int(r.Right)+before)
					}
					made.Rules = append(made.Rules, r)
				}
				if word != "" {
					stands[x] = last(made)
				}
			case one && two:
				made.Rules = append(made.Rules, pair(left, right))
				stands[x] = last(made)
			case one:
				stands[x] = left
			case two:
				stands[x] = right
			}
		}
	}
	return made
}
