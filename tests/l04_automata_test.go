package tests

import (
	"fmt"
	"slices"
	"strings"
	"testing"

	"loop.example/g01133/impl"
)

func TestExampleOfChapter4(t *testing.T) {
	g := gram(example)
	count, one := impl.CountPattern(g, "ab")
	place, two := impl.NextPattern(g, "ab", 1)
	a, three := impl.PatternAuto("ab")
	is(t, "the patterns", "abaab 2 0 3 0 0", wordOf(g), count, one, place, two, three)
	is(t, "the automaton", "auto 3 0\nfinals 2\nstate 1 0 0 0\nstate 1 2 0 0\nstate 1 0 0 0\n", impl.AutoText(a))
	is(t, "the visits", "[0 3 2] 0", list(impl.VisitCounts(a, g))...)
	is(t, "the limits", "24 20 6 2000", impl.MaxAutoStates, impl.MaxPattern, impl.MaxOut, impl.MaxAutoText)
}

// sameAuto holds an automaton and a code against what they should be.
func sameAuto(t *testing.T, name string, a impl.Auto, code int64, want impl.Auto) {
	t.Helper()
	if code != impl.OK || autoTextOf(a) != autoTextOf(want) {
		t.Errorf("%s: got %q and the code %d, want %q", name, autoTextOf(a), code, autoTextOf(want))
	}
}

func TestPromise8Texts(t *testing.T) {
	for _, a := range slices.Concat(someAutos(), longAutos()) {
		text := autoTextOf(a)
		if !impl.ValidAuto(a) || impl.AutoText(a) != text {
			t.Errorf("%q: valid is %v, and the text %q", text, impl.ValidAuto(a), impl.AutoText(a))
		}
		back, code := impl.ReadAuto(text)
		sameAuto(t, "ReadAuto", back, code, a)
		if !impl.SameAuto(back, a) || !impl.ValidAuto(back) {
			t.Errorf("%q is read as something else", text)
		}
	}
	for _, bad := range invalidAutos() {
		if impl.ValidAuto(bad) || impl.AutoText(bad) != "" {
			t.Errorf("an automaton of %d states and %d lists is valid, with the text %.40q", bad.States, len(bad.Next), impl.AutoText(bad))
		}
		if len(bad.Next) < 100 && len(bad.Finals) < 100 {
			text := autoTextOf(bad)
			if len(text) > impl.MaxAutoText {
				continue
			}
			a, code := impl.ReadAuto(text)
			failsWith(t, fmt.Sprintf("ReadAuto of %q", text), list(a, code), impl.ErrSyntax)
		}
	}
	is(t, "ring of 2", "auto 2 0\nfinals\nstate 1 1 1 1\nstate 0 0 0 0\n", impl.AutoText(ring(2)))
	is(t, "ring of 2 with finals", "auto 2 0\nfinals 0 1\nstate 1 1 1 1\nstate 0 0 0 0\n", impl.AutoText(ring(2, 0, 1)))
}

// wrongAutoTexts returns texts that no automaton has, for different reasons.
func wrongAutoTexts() []string {
	const fine = "auto 11 3\nfinals 0 10\n"
	states := strings.Repeat("state 0 10 2 3\n", 11)
	texts := []string{"", "\n", " ", "auto", "auto\n", "auto 1 0\n", "auto 1 0\nfinals\n", "finals\nauto 1 0\nstate 0 0 0 0\n", "auto 1 0\nstate 0 0 0 0\n", "auto 0 0\nfinals\n",
		fine, states, fine + states + states, fine + states + "\n", "\n" + fine + states, fine + "\n" + states, strings.TrimSuffix(fine+states, "\n"), fine + states + "x", fine + states + " ",
		fine + strings.TrimSuffix(states, "state 0 10 2 3\n"), fine + states + "state 0 10 2 3\n", "auto 25 0\nfinals\n" + strings.Repeat("state 0 0 0 0\n", 25)}
	exchange := func(pairs ...string) {
		for k := 0; k < len(pairs); k += 2 {
			text := strings.Replace(fine+states, pairs[k], pairs[k+1], 1)
			if text == fine+states {
				panic(pairs[k])
			}
			texts = append(texts, text)
		}
	}
	for _, word := range []string{"auto", "finals", "state"} {
		exchange(word, word+" ", word, " "+word, word, strings.ToUpper(word[:1])+word[1:], word, word+"s", word, word[1:], word+" ", word, word+" ", word+"\t", word+" ", "", word, "")
	}
	// Numbers that are written in another way, or that are none.
	exchange("11", "011", "11", "+11", "11", "-11", "11", "0x0b", "11", "1e1", "11", "11.0", "11", "1_1", "11", "eleven", "11", "1 1", "11", "11.", "11", "", "11", "١١")
	exchange(" 3\n", " -3\n", " 3\n", " +3\n", " 3\n", " 03\n", " 3\n", " 11\n", " 3\n", " -1\n", " 3\n", " 18446744073709551619\n", " 3\n", " 3 \n", " 3\n", " 3 0\n", " 3\n", "\n", " 3\n", "  3\n", " 3\n", " 3\r\n", " 3\n", " ３\n")
	exchange("finals 0", "finals -0", "finals 0", "finals +0", "finals 0", "finals 00", "finals 0", "finals 10", "finals 0", "finals 11", "finals 0", "finals -1")
	exchange("finals 0 10\n", "finals 0  10\n", "finals 0 10\n", "finals 0 10 \n", "finals 0 10\n", "finals 10 0\n", "finals 0 10\n", "finals 0 10 10\n", "finals 0 10\n", "finals 0, 10\n", "finals 0 10\n", "finals \n", "finals 0 10\n", "finals 0\n10\n")
	exchange("state 0 10", "state 0 010", "state 0 10", "state 0 11", "state 0 10", "state -1 10", "state 0 10", "state 0 +10", "state 0 10", "state 0 a", "state 0 10", "state 0  10", "state 0 10", "state 0\n10")
	exchange(" 2 3\nstate", " 2\nstate", " 2 3\nstate", " 2 3 4\nstate", " 2 3\nstate", " 2 3 \nstate", " 2 3\nstate", " 2 3state", " 2 3\nstate", " 2 3\n\nstate", " 2 3\nstate", " 2 3\r\nstate", " 2 3\nstate", " 2 3 state", " 2 3\nstate", " 2 3\nfinals")
	exchange("finals 0 10\n", "finals 0 1"+strings.Repeat("0", 60)+"\n", "state 0 10", "state 0 4294967306", "state 0 10", "state 0 18446744073709551626", "state 0 10", "state 0 9223372036854775807", "state 0 10", "state 0 9223372036854775808")
	return texts
}

func TestPromise8WrongTexts(t *testing.T) {
	for _, text := range wrongAutoTexts() {
		a, code := impl.ReadAuto(text)
		failsWith(t, fmt.Sprintf("ReadAuto of %q", text), list(a, code), impl.ErrSyntax)
	}
	_, code := impl.ReadAuto("auto 11 3\nfinals 0 10\n" + strings.Repeat("state 0 10 2 3\n", 11))
	is(t, "the right one", "0", code)
	for _, length := range []int{1999, 2000, 2001, 2002, 100000} {
		text := "auto 1 0\nfinals\nstate 0 0 0 0\n"
		for _, text := range []string{text + strings.Repeat("\n", length-len(text)), strings.Repeat("0", length-len(text)) + text, strings.Repeat("a", length)} {
			a, code := impl.ReadAuto(text)
			want := int64(impl.ErrSyntax)
			if length > 2000 {
				want = impl.ErrRange
			}
			failsWith(t, fmt.Sprintf("ReadAuto of %d bytes", length), list(a, code), want)
		}
	}
}

func TestPromise8Same(t *testing.T) {
	autos := slices.Concat(someAutos()[:60], longAutos(), invalidAutos())
	autos = slices.DeleteFunc(autos, func(a impl.Auto) bool {
		return len(a.Next) > 100 || len(a.Finals) > 100 || len(a.Next) > 0 && len(a.Next[0]) > 100
	})
	// What is printed of automata is the same only if they are, but for nil and empty lists.
	texts := []string{}
	for _, a := range autos {
		texts = append(texts, fmt.Sprint(a))
	}
	for k, a := range autos {
		for l, b := range autos {
			if want := texts[k] == texts[l]; impl.SameAuto(a, b) != want {
				t.Errorf("SameAuto of %v and %v is not %v", a, b, want)
			}
		}
		if !impl.SameAuto(a, copiedAuto(a)) {
			t.Errorf("%v is not the same as a copy of it", a)
		}
	}
	long := impl.Auto{States: 1, Next: make([][]int64, 400000)}
	other := impl.Auto{States: 1, Next: make([][]int64, 400000)}
	is(t, "long automata", "true", impl.SameAuto(long, other))
	other.Next[399999] = []int64{0}
	is(t, "long automata that differ at the end", "false", impl.SameAuto(long, other))
}

// placesUpTo returns all places of a short word, and some of a longer one.
func placesUpTo(n int64) []int64 {
	places := []int64{}
	for i := int64(0); i <= n; i += 1 + n/60 {
		places = append(places, i)
	}
	return append(places, n)
}

// readsLikePlain holds all runs of an automaton over a grammar against the run letter by letter.
func readsLikePlain(t *testing.T, a impl.Auto, g impl.Grammar) {
	t.Helper()
	w := wordOf(g)
	n := int64(len(w))
	name := fmt.Sprintf("%q and %.60q, of %.80q", autoTextOf(a), w, textOf(g))
	states := statesBehind(a.Next, a.Start, w)
	for s := range a.States {
		want := statesBehind(a.Next, s, w)[n]
		end, code := impl.RunGrammar(a, s, g)
		counts(t, "RunGrammar of "+name, end, code, want)
		end, code = impl.RunWord(a, s, w)
		counts(t, "RunWord of "+name, end, code, want)
		visit, code := impl.FirstVisit(a, g, s)
		first := int64(slices.Index(states, s))
		if first < 0 {
			first = -impl.ErrNotFound
		}
		counts(t, "FirstVisit of "+name, visit, code, first)
	}
	for _, s := range []int64{least, -1, a.States, a.States + 1, impl.MaxAutoStates, greatest} {
		end, code := impl.RunGrammar(a, s, g)
		counts(t, "RunGrammar from no state", end, code, -impl.ErrRange)
		end, code = impl.RunWord(a, s, w)
		counts(t, "RunWord from no state", end, code, -impl.ErrRange)
		visit, code := impl.FirstVisit(a, g, s)
		counts(t, "FirstVisit of no state", visit, code, -impl.ErrRange)
	}
	for _, i := range placesUpTo(n) {
		s, code := impl.StateAfter(a, g, i)
		counts(t, fmt.Sprint("StateAfter ", i, " of ", name), s, code, states[i])
	}
	for _, i := range []int64{least, -1, n + 1, greatest} {
		s, code := impl.StateAfter(a, g, i)
		counts(t, "StateAfter no place", s, code, -impl.ErrRange)
	}
	visits, accepted := make([]int64, a.States), int64(0)
	for k, s := range states {
		if k > 0 {
			visits[s]++
		}
		if slices.Contains(a.Finals, s) {
			accepted++
		}
	}
	is(t, "VisitCounts of "+name, fmt.Sprint(visits, " 0"), list(impl.VisitCounts(a, g))...)
	count, code := impl.CountAccepted(a, g)
	counts(t, "CountAccepted of "+name, count, code, accepted)
	yes, code := impl.AcceptsGrammar(a, g)
	saysWhether(t, "AcceptsGrammar of "+name, yes, code, slices.Contains(a.Finals, states[n]))
}

// mapsLikePlain holds the maps of all rules against runs letter by letter.
func mapsLikePlain(t *testing.T, a impl.Auto, g impl.Grammar) {
	t.Helper()
	want := [][]int64{}
	for _, w := range wordsOf(g) {
		reached := []int64{}
		for s := range a.States {
			states := statesBehind(a.Next, s, w)
			reached = append(reached, states[len(w)])
		}
		want = append(want, reached)
	}
	is(t, fmt.Sprintf("StateMaps of %q and %.80q", autoTextOf(a), textOf(g)), fmt.Sprint(want, " 0"), list(impl.StateMaps(a, g))...)
}

func TestPromise8SmallGrammars(t *testing.T) {
	autos := someAutos()
	for k, g := range someGrammars() {
		for l := range 2 {
			a := autos[(k*37+l*61)%len(autos)]
			readsLikePlain(t, a, g)
			mapsLikePlain(t, a, g)
		}
	}
	for _, a := range autos {
		for _, g := range []impl.Grammar{{}, gram(example), gram("c\n"), mixedGrammar(40, 200, 3), mixedGrammar(60, 1000, 3), plainBy("dcbacd")} {
			readsLikePlain(t, a, g)
			mapsLikePlain(t, a, g)
		}
	}
	for _, g := range []impl.Grammar{chain(400), mixedGrammar(400, 1900, 36), mixedGrammar(400, 1900, 8)} {
		for _, a := range longAutos() {
			readsLikePlain(t, a, g)
		}
	}
}

// TestPromise8Empty checks that nothing is read from the grammar without rules.
func TestPromise8Empty(t *testing.T) {
	a := ring(3, 1)
	a.Start = 1
	is(t, "no maps", "[] 0", list(impl.StateMaps(a, impl.Grammar{}))...)
	is(t, "no visits", "[0 0 0] 0", list(impl.VisitCounts(a, impl.Grammar{}))...)
	is(t, "the first visit", "0 0", list(impl.FirstVisit(a, impl.Grammar{}, 1))...)
	is(t, "the empty word accepted", "1 0", list(impl.CountAccepted(a, impl.Grammar{}))...)
	is(t, "the first state in its visits", "[0 0 1] 0", list(impl.VisitCounts(a, gram("a\n")))...)
	full := fullGrammar()
	is(t, "all beginnings", "1000000000000001 0", list(impl.CountAccepted(ring(1, 0), full))...)
	is(t, "all visits", "[1000000000000000] 0", list(impl.VisitCounts(ring(1), full))...)
	is(t, "none accepted", "0 0", list(impl.CountAccepted(ring(1), full))...)
}

// readsLikePieces holds the runs of an automaton over a grammar of a long word against its pieces.
func readsLikePieces(t *testing.T, a impl.Auto, g impl.Grammar, w pieces) {
	t.Helper()
	name := fmt.Sprintf("%q and %.90s", autoTextOf(a), w)
	whole := journeyOf(a, a.Start, w)
	end, code := impl.RunGrammar(a, a.Start, g)
	counts(t, "RunGrammar of "+name, end, code, whole.end)
	from := a.States - 1
	end, code = impl.RunGrammar(a, from, g)
	counts(t, "RunGrammar of "+name, end, code, journeyOf(a, from, w).end)
	is(t, "VisitCounts of "+name, fmt.Sprint(whole.visits, " 0"), list(impl.VisitCounts(a, g))...)
	accepted := int64(0)
	for _, s := range a.Finals {
		accepted += whole.visits[s]
		if s == a.Start {
			accepted++
		}
	}
	count, code := impl.CountAccepted(a, g)
	counts(t, "CountAccepted of "+name, count, code, accepted)
	yes, code := impl.AcceptsGrammar(a, g)
	saysWhether(t, "AcceptsGrammar of "+name, yes, code, slices.Contains(a.Finals, whole.end))
	for s, first := range whole.first {
		if first < 0 {
			first = -impl.ErrNotFound
		}
		visit, code := impl.FirstVisit(a, g, int64(s))
		counts(t, "FirstVisit of "+name, visit, code, first)
	}
	for _, i := range w.somePlaces() {
		s, code := impl.StateAfter(a, g, i)
		counts(t, fmt.Sprint("StateAfter ", i, " of ", name), s, code, journeyOf(a, a.Start, w.start(i)).end)
	}
	s, code := impl.StateAfter(a, g, w.length()+1)
	counts(t, "StateAfter the end of "+name, s, code, -impl.ErrRange)
}

func TestPromise8LongWords(t *testing.T) {
	for k, w := range hugeWords() {
		ways := grammarsOf(t, w)
		for l, a := range longAutos() {
			readsLikePieces(t, a, ways[(k+l)%len(ways)], w)
			readsLikePieces(t, a, ways[(k+l+3)%len(ways)], w)
		}
	}
}

// TestPromise8LateVisits looks for states that are reached at the very end of long words.
func TestPromise8LateVisits(t *testing.T) {
	late := auto([]int64{2}, []int64{0, 1, 0, 0}, []int64{2, 1, 1, 1}, []int64{2, 2, 2, 2})
	for _, w := range []pieces{{{"ac", impl.MaxLength/2 - 1}, {"b", 1}, {"a", 1}}, {{"ac", 1 << 40}, {"bcd", 1 << 40}, {"a", 1}, {"d", 1 << 40}}, {{"b", impl.MaxLength - 1}, {"a", 1}}} {
		for _, g := range grammarsOf(t, w) {
			readsLikePieces(t, late, g, w)
		}
	}
}

// TestPromise8InParts cuts long words, and reads the second part from where the first one leads to.
func TestPromise8InParts(t *testing.T) {
	for k, g := range manyGrammars() {
		// Fewer rules, so that there are not too many when it is cut.
		g = rules(g.Rules[:min(250, len(g.Rules))]...)
		n, _ := impl.LengthOf(g)
		for l, i := range []int64{0, 1, n / 3, n / 2, n - 1, n} {
			one, two := partOf(t, g, 0, i), partOf(t, g, i, n)
			a := longAutos()[(k*3+l)%len(longAutos())]
			name := fmt.Sprintf("%q in parts at %d", autoTextOf(a), i)
			middle, code := impl.StateAfter(a, g, i)
			is(t, name, fmt.Sprint(middle, code), list(impl.RunGrammar(a, a.Start, one))...)
			end, code := impl.RunGrammar(a, middle, two)
			is(t, name, fmt.Sprint(end, code), list(impl.RunGrammar(a, a.Start, g))...)
			behind := a
			behind.Start = middle
			visits, _ := impl.VisitCounts(a, one)
			further, _ := impl.VisitCounts(behind, two)
			sum := int64(0)
			for s := range visits {
				visits[s] += further[s]
				sum += visits[s]
			}
			is(t, name, fmt.Sprint(visits, " 0"), list(impl.VisitCounts(a, g))...)
			is(t, name+", all visits", fmt.Sprint(n), sum)
			first, _ := impl.CountAccepted(a, one)
			second, _ := impl.CountAccepted(behind, two)
			if slices.Contains(a.Finals, middle) {
				second--
			}
			count, code := impl.CountAccepted(a, g)
			counts(t, name, count, code, first+second)
			for s := range a.States {
				visit, code := impl.FirstVisit(a, one, s)
				if code == impl.ErrNotFound {
					visit, code = impl.FirstVisit(behind, two, s)
					visit += i
				}
				if code == impl.ErrNotFound {
					visit = -impl.ErrNotFound
				}
				got, code := impl.FirstVisit(a, g, s)
				counts(t, name, got, code, visit)
			}
		}
	}
}

// TestPromise8Not holds the automaton that accepts all other words against the one that it is made of.
func TestPromise8Not(t *testing.T) {
	words := append(wordsUpTo("abcd", 3), longWords()...)
	for _, a := range slices.Concat(someAutos(), longAutos()) {
		not, code := impl.NotAuto(a)
		want := a
		want.Finals = slices.DeleteFunc(allStates(int(a.States)), func(s int64) bool { return slices.Contains(a.Finals, s) })
		sameAuto(t, "NotAuto", not, code, want)
		back, code := impl.NotAuto(not)
		sameAuto(t, "NotAuto of NotAuto", back, code, a)
		for _, w := range words {
			one, _ := impl.RunWord(a, a.Start, w)
			two, _ := impl.RunWord(not, not.Start, w)
			if slices.Contains(a.Finals, one) == slices.Contains(not.Finals, two) {
				t.Errorf("%q and its opposite say the same of %.40q", autoTextOf(a), w)
			}
		}
	}
	full := fullGrammar()
	for _, a := range longAutos() {
		not, _ := impl.NotAuto(a)
		one, _ := impl.CountAccepted(a, full)
		two, _ := impl.CountAccepted(not, full)
		is(t, "the beginnings that either accepts", fmt.Sprint(impl.MaxLength+1), one+two)
	}
}

// TestPromise8Both holds the automaton that accepts what two others accept against both.
func TestPromise8Both(t *testing.T) {
	words := append(wordsUpTo("abcd", 3), longWords()...)
	for p := 1; p <= impl.MaxAutoStates; p++ {
		for q := 1; q <= impl.MaxAutoStates; q++ {
			a, b := mixedAuto(p, uint32(p*5+q)), mixedAuto(q, uint32(p+q*9))
			both, code := impl.BothAuto(a, b)
			if p*q > impl.MaxAutoStates {
				failsWith(t, fmt.Sprint("BothAuto of ", p, " and ", q, " states"), list(both, code), impl.ErrLimit)
				continue
			}
			n := int64(q)
			want := impl.Auto{States: int64(p) * n, Start: a.Start*n + b.Start}
			for _, s := range allStates(p) {
				for _, u := range allStates(q) {
					list := []int64{}
					for l := range 4 {
						list = append(list, a.Next[s][l]*n+b.Next[u][l])
					}
					want.Next = append(want.Next, list)
					if slices.Contains(a.Finals, s) && slices.Contains(b.Finals, u) {
						want.Finals = append(want.Finals, s*n+u)
					}
				}
			}
			sameAuto(t, fmt.Sprint("BothAuto of ", p, " and ", q, " states"), both, code, want)
			if !impl.ValidAuto(both) {
				t.Errorf("BothAuto of %d and %d states is not valid", p, q)
			}
			for _, w := range words {
				one, _ := impl.RunWord(a, a.Start, w)
				two, _ := impl.RunWord(b, b.Start, w)
				three, code := impl.RunWord(both, both.Start, w)
				if code != impl.OK || three != one*n+two || slices.Contains(both.Finals, three) != (slices.Contains(a.Finals, one) && slices.Contains(b.Finals, two)) {
					t.Errorf("BothAuto of %d and %d states says something else of %.40q", p, q, w)
				}
			}
		}
	}
	// "ab" ends behind 2, 4, 6 and 8 letters of each eight: twice where the ring is in its second half.
	eights := ring(8, 4, 5, 6, 7)
	pattern, _ := impl.PatternAuto("ab")
	both, code := impl.BothAuto(eights, pattern)
	is(t, "both of 8 and 3", "24 0", both.States, code)
	count, code := impl.CountAccepted(both, fullGrammar())
	counts(t, "both over the longest word", count, code, impl.MaxLength/8*2)
}
