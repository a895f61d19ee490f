package tests

import (
	"fmt"
	"slices"
	"strings"
	"testing"
	"unsafe"

	"loop.example/g01133/impl"
)

// editArgs are arguments for all functions of chapter 7.
type editArgs struct {
	g, h    impl.Grammar
	w, text string // a plain word, and the text of an edit or a script
	e, f    impl.Edit
	list    []impl.Edit
	n, m    int64
	first   bool
}

// editCall is a call of a function of chapter 7, which returns its results, the code last if there is one.
type editCall struct {
	name  string
	takes string // which arguments it is given that may not be valid
	call  func(x editArgs) []any
}

// editCalls returns calls of all functions that return a code.
func editCalls() []editCall {
	type args = editArgs
	return []editCall{
		{"ReadEdit", "", func(x args) []any { r, c := impl.ReadEdit(x.text); return list(r, c) }},
		{"ApplyEdit", "ge", func(x args) []any { r, c := impl.ApplyEdit(x.g, x.e); return list(r, c) }},
		{"ApplyEdits", "gl", func(x args) []any { r, n, c := impl.ApplyEdits(x.g, x.list); return list(r, n, c) }},
		{"EditPlain", "we", func(x args) []any { r, c := impl.EditPlain(x.w, x.e); return list(r, c) }},
		{"PlaceAfter", "e", func(x args) []any { r, c := impl.PlaceAfter(x.n, x.e, x.m); return list(r, c) }},
		{"InverseEdits", "ge", func(x args) []any { r, c := impl.InverseEdits(x.g, x.e); return list(r, c) }},
		{"PassEdit", "ef", func(x args) []any { r, c := impl.PassEdit(x.e, x.f, x.first); return list(r, c) }},
		{"MergeEdits", "gef", func(x args) []any { r, c := impl.MergeEdits(x.g, x.e, x.f); return list(r, c) }},
		{"DifferenceEdits", "gh", func(x args) []any { r, c := impl.DifferenceEdits(x.g, x.h); return list(r, c) }},
		{"UndoTo", "gl", func(x args) []any { r, c := impl.UndoTo(x.g, x.list, x.n); return list(r, c) }},
		{"RunScript", "g", func(x args) []any { r, c := impl.RunScript(x.g, x.text); return list(r, c) }},
	}
}

// allEditCalls returns calls of all functions of chapter 7, those that return no code with OK.
func allEditCalls() []editCall {
	type args = editArgs
	const ok = int64(impl.OK)
	return append(editCalls(),
		editCall{"ValidEdit", "", func(x args) []any { return list(impl.ValidEdit(x.e), ok) }},
		editCall{"EditText", "", func(x args) []any { return list(impl.EditText(x.e), ok) }},
	)
}

// editInTime calls a function, which has to return within a few seconds, with zero results beside an error.
func editInTime(t *testing.T, f editCall, x editArgs) []any {
	t.Helper()
	return inSeconds(t, f.name, func() []any { return f.call(x) })
}

// greatScripts returns scripts at the limits.
func greatScripts() []string {
	// Sixty edits with as many rules as MaxScriptText allows.
	long := ""
	for k := range 60 {
		long += fmt.Sprintln("insert", k%2, mixedWord("abcd", 310, uint32(k)))
	}
	return []string{
		long + strings.Repeat("word\n", 60), long + strings.Repeat("x", impl.MaxScriptText-len(long)), strings.Repeat("word\n", impl.MaxScriptLines), strings.Repeat("turn 0 1\n", 60) + strings.Repeat("undo\n", 60),
		strings.Repeat("copy 0 1 0\n", 119) + strings.Repeat("x", 9000), strings.Repeat("repeat 0 1 3\nundo\n", 60), strings.Repeat("repeat 0 1 3\nmove 1 2 0\n", 60), "insert 0 a\nword\nundo\nlength\nat 0\n",
	}
}

// someScripts returns scripts of all kinds, those at the limits, too.
func someScripts() []string {
	return slices.Concat(wrongEditTexts(), []string{"", "\n", "word", strings.Repeat("\n", impl.MaxScriptLines+1)}, greatScripts())
}

// someEditLists returns lists of edits, those at the limits, too.
func someEditLists() [][]impl.Edit {
	lists := [][]impl.Edit{nil, {}, someValidEdits(), someInvalidEdits(), someValidEdits()[:12], make([]impl.Edit, 100000)}
	for seed := range uint32(12) {
		next := mixing(seed + 70)
		made, _ := mixedEdits(mixedWord("ab", 40, seed), impl.MaxEdits+int(seed)%2, 400, next)
		lists = append(lists, made)
	}
	deep := slices.Repeat(edits(inserts(0, chain(impl.MaxRules))), 2400)
	return append(lists, deep, deep[:60], slices.Repeat(edits(copies(0, 1, 0)), 100000), slices.Repeat(edits(turns(0, 2), deletes(0, 0), moves(0, 1, 2)), 20), append(slices.Clone(deep), impl.Edit{}))
}

// TestPromise1EditsReturn gives every function arguments of all kinds, each call within a few seconds.
func TestPromise1EditsReturn(t *testing.T) {
	grammars := slices.Concat(manyGrammars(), invalidGrammars(), smallGrammars(2))
	words := slices.Concat(longWords(), invalidWords(), []string{"", "a", "abaab", "abcdabcd"})
	all := slices.Concat(someValidEdits(), someValidEdits(), allEdits(2, []impl.Grammar{gram("b\n")}), someInvalidEdits())
	lists, scripts := someEditLists(), someScripts()
	numbers := append(someNumbers(), 60, 61, 8, 3)
	for _, f := range allEditCalls() {
		for k := range 300 {
			next := mixing(uint32(k * 8887))
			number := func() int64 { return numbers[next(len(numbers))] }
			editInTime(t, f, editArgs{
				grammars[next(len(grammars))], grammars[next(len(grammars))], words[next(len(words))], scripts[next(len(scripts))],
				all[next(len(all))], all[next(len(all))], lists[next(len(lists))], number(), number(), k%2 == 0,
			})
		}
	}
}

// TestPromise1EditsTakeAll gives every function grammars of MaxRules rules and of long words, MaxEdits edits, and scripts
// of MaxScriptText bytes, which may only be too many for a result.
func TestPromise1EditsTakeAll(t *testing.T) {
	scripts, grammars := greatScripts(), manyGrammars()
	for k, g := range grammars {
		n, _ := impl.LengthOf(g)
		if n < 9 {
			continue
		}
		small := slices.Repeat(edits(turns(0, 1), moves(0, 1, n/2), moves(n/2, n/2, 1), replaces(n/2, n/2, "aaaa")), 15)
		some := edits(inserts(n/3, gram("a\n")), inserts(n, chain(impl.MaxRules)), deletes(n/3, n/2), copies(1, n/2, n/3), moves(1, n/2, n), moves(n/3, n/2, 0), turns(1, n/2), repeats(1, n/2, 2), repeats(0, n, 1), replaces(1, n-1, "badc"))
		for l, e := range some {
			x := editArgs{g: g, h: grammars[(k+l)%len(grammars)], w: longWords()[l], e: e, f: some[(l+1)%3], list: small, n: n, m: n / 2, text: scripts[l%len(scripts)]}
			for _, f := range editCalls() {
				if !strings.Contains(f.takes, "e") && (k+l)%4 > 0 {
					continue
				}
				right := []int64{impl.OK, impl.ErrLimit}
				switch f.name {
				case "ReadEdit":
					right = []int64{impl.ErrSyntax}
				case "EditPlain", "MergeEdits":
					right = append(right, impl.ErrRange)
				case "UndoTo":
					x.n, right = 0, append(right, impl.ErrState)
				case "PassEdit":
					right = append(right, impl.ErrRange)
				}
				if code := codeOf(editInTime(t, f, x)); !slices.Contains(right, code) {
					t.Errorf("%s with %s: got the code %d", f.name, nameOf(e), code)
				}
			}
		}
	}
}

// memoryRange is where the memory of a slice begins and ends, that which it does not use being counted.
type memoryRange struct{ from, to uintptr }

// rangeOf returns the memory of a slice.
func rangeOf[Element any](list []Element) memoryRange {
	var one Element
	from := uintptr(unsafe.Pointer(unsafe.SliceData(list)))
	return memoryRange{from, from + uintptr(cap(list))*unsafe.Sizeof(one)}
}

// rangesOf returns the memory of what some values have.
func rangesOf(values ...any) []memoryRange {
	var ranges []memoryRange
	for _, value := range values {
		switch v := value.(type) {
		case impl.Grammar:
			ranges = append(ranges, rangeOf(v.Rules))
		case impl.Edit:
			ranges = append(ranges, rangeOf(v.Part.Rules))
		case []impl.Edit:
			ranges = append(ranges, rangeOf(v))
			for _, e := range v {
				ranges = append(ranges, rangeOf(e.Part.Rules))
			}
		case []impl.Deed:
			ranges = append(ranges, rangeOf(v))
		case []int64:
			ranges = append(ranges, rangeOf(v))
		case impl.Depot:
			ranges = append(ranges, rangeOf(v.Words))
			for _, g := range v.Words {
				ranges = append(ranges, rangeOf(g.Rules))
			}
		case impl.Store:
			ranges = append(ranges, rangesOfStore(v)...)
		}
	}
	return slices.DeleteFunc(ranges, func(r memoryRange) bool { return r.from == r.to })
}

// sharesNone checks that results share memory neither with arguments nor with each other.
func sharesNone(t *testing.T, name string, results []any, x editArgs) {
	t.Helper()
	sharesWithNone(t, name, rangesOf(results...), rangesOf(x.g, x.h, x.e, x.f, x.list))
}

// sharesWithNone checks that the memory of results is neither given nor that of other ones.
func sharesWithNone(t *testing.T, name string, made, given []memoryRange) {
	t.Helper()
	for k, one := range made {
		for _, other := range slices.Concat(made[:k], given) {
			if one.from < other.to && other.from < one.to {
				t.Errorf("%s: a result shares its memory", name)
			}
		}
	}
}

// spoilEdits overwrites all slices of results, those of edits, too.
func spoilEdits(results []any) {
	for _, result := range results {
		switch v := result.(type) {
		case impl.Edit:
			spoil(v.Part.Rules)
		case []impl.Edit:
			for _, e := range v {
				spoil(e.Part.Rules)
			}
		}
	}
	spoilAll(results)
}

// roomyGrammar and roomyEdits return the same with further elements behind them in memory.
func roomyGrammar(g impl.Grammar) impl.Grammar {
	return impl.Grammar{Rules: roomy(g.Rules, impl.Rule{Letter: "spare", Left: -7, Right: -8})}
}

func roomyEdits(list []impl.Edit) []impl.Edit {
	made := roomy(list, deletes(-7, -8))
	for k := range made {
		made[k].Part = roomyGrammar(made[k].Part)
	}
	return made
}

// memoryOfArgs tells all that is in the memory of arguments.
func memoryOfArgs(x editArgs) string {
	text := memoryOf(x.g.Rules) + memoryOf(x.h.Rules) + memoryOf(x.list) + memoryOfEdit(x.e) + memoryOfEdit(x.f)
	for _, e := range x.list {
		text += memoryOfEdit(e)
	}
	return text
}

// TestPromise1EditsRepeat calls every function twice, the first results being overwritten in between, and checks that
// arguments stay as they are, and what is behind them in memory, and that no memory is shared.
func TestPromise1EditsRepeat(t *testing.T) {
	grammars := slices.Concat(smallGrammars(2), mixedGrammars(20, 100)[:40], longGrammars(), []impl.Grammar{gram(example), rules(letter("e"))})
	words := []string{"abaab", "", "abcdabcd", mixedWord("abc", 150, 7), "e", "aaaaaaaaaaaaaaaaaaaa"}
	scripts := append(greatScripts(), "turn 0 1\ndelete 0 1\nundo\nword", "delete 0 1", "insert 0 abaab", "map 0 1 abce")
	for k, g := range grammars {
		n, _ := impl.LengthOf(g)
		next := mixing(uint32(k) + 31)
		for range 5 {
			one := func() impl.Edit { return mixedEdit(min(n, 30), next) }
			pass := func() impl.Edit {
				i, j := next(int(min(n, 9))+1), next(int(min(n, 9))+1)
				return []impl.Edit{inserts(int64(i), gram("c\nd\n0 1\n")), deletes(int64(min(i, j)), int64(max(i, j))), one()}[next(9)%4%3]
			}
			x := editArgs{roomyGrammar(g), roomyGrammar(grammars[next(len(grammars))]), words[next(len(words))], scripts[next(len(scripts))], pass(), pass(), nil, 0, int64(next(5)), next(2) == 0}
			x.e.Part, x.f.Part = roomyGrammar(x.e.Part), roomyGrammar(x.f.Part)
			for range next(5) {
				x.list = append(x.list, one())
			}
			x.list, x.n = roomyEdits(x.list), int64(next(len(x.list)+1))
			for _, f := range allEditCalls() {
				before := memoryOfArgs(x)
				first := f.call(x)
				want := fmt.Sprintf("%#v", first)
				sharesNone(t, f.name, first, x)
				spoilEdits(first)
				if got := fmt.Sprintf("%#v", f.call(x)); got != want {
					t.Errorf("%s: got %.200s for the second time, and %.200s at first", f.name, got, want)
				}
				if memoryOfArgs(x) != before {
					t.Errorf("%s has changed an argument", f.name)
				}
			}
		}
	}
}

// TestPromise1EditsApart checks results of several grammars, and results that could be arguments as they are.
func TestPromise1EditsApart(t *testing.T) {
	check := func(name string, x editArgs, results ...any) {
		t.Helper()
		if code := codeOf(results); code != impl.OK {
			t.Errorf("%s: got the code %d", name, code)
		}
		sharesNone(t, name, results, x)
	}
	for _, text := range []string{"a\n", "a\n0 0\n1 1\n", example} {
		x := editArgs{g: roomyGrammar(gram(text)), h: roomyGrammar(gram("d\nc\n1 0\n"))}
		x.e = inserts(0, x.h)
		made, times, code := impl.ApplyEdits(x.g, nil)
		check("ApplyEdits", x, made, times, code)
		made, code = impl.ApplyEdit(x.g, deletes(0, 0))
		check("ApplyEdit", x, made, code)
		made, code = impl.ApplyEdit(impl.Grammar{}, x.e)
		check("ApplyEdit", x, made, code)
		made, code = impl.MergeEdits(x.g, deletes(0, 0), deletes(0, 0))
		check("MergeEdits", x, made, code)
		for _, f := range edits(x.e, deletes(0, 1), inserts(3, x.h), deletes(1, 1)) {
			left, code := impl.PassEdit(x.e, f, true)
			check("PassEdit", x, left, code)
			left, code = impl.PassEdit(x.e, x.e, false)
			check("PassEdit", x, left, code)
		}
		found, code := impl.DifferenceEdits(impl.Grammar{}, x.g)
		check("DifferenceEdits", x, found, code)
		bare := turns(0, 1)
		bare.Part = impl.Grammar{Rules: make([]impl.Rule, 0, 5)}
		x.f, x.list = bare, []impl.Edit{deletes(0, 1), inserts(0, x.h), bare, replaces(0, 1, "dddd"), repeats(0, 1, 3), repeats(1, 2, 2)}
		inverse, code := impl.InverseEdits(x.g, bare)
		check("InverseEdits", x, inverse, code)
		back, code := impl.UndoTo(x.g, x.list, 0)
		check("UndoTo", x, back, code)
		is(t, "the number of edits back", "9", len(back))
	}
}

// TestPromise1EditsNil checks that no rules and no edits are the same whether they are nil or not.
func TestPromise1EditsNil(t *testing.T) {
	none := impl.Grammar{Rules: []impl.Rule{}}
	nothing := editArgs{e: deletes(0, 0), f: deletes(0, 0)}
	bare := nothing
	bare.g, bare.h, bare.list = none, none, []impl.Edit{}
	bare.e.Part, bare.f.Part = none, none
	for name, want := range map[string]string{
		"ApplyEdit": "{[]} 0", "ApplyEdits": "{[]} 0 0", "EditPlain": " 0", "PlaceAfter": "0 0", "InverseEdits": "[] 0", "PassEdit": "[] 0", "MergeEdits": "{[]} 0", "DifferenceEdits": "[] 0",
		"UndoTo": "[] 0", "RunScript": " 0", "ValidEdit": "true 0", "EditText": "delete 0 0 0", "ReadEdit": "{0 0 0 0 {[]} } 5",
	} {
		for _, f := range allEditCalls() {
			if f.name == name {
				is(t, name+" of nil", want, f.call(nothing)...)
				is(t, name+" of nothing", want, f.call(bare)...)
			}
		}
	}
}

// TestPromise1EditsInvalid checks that an argument that is not valid comes ahead of all other errors.
func TestPromise1EditsInvalid(t *testing.T) {
	const n = impl.MaxLength
	fine := []editArgs{
		{g: gram(example), h: gram(example), w: "abaab", text: "word", e: deletes(0, 1), f: inserts(0, gram("a\n")), list: edits(deletes(0, 1)), n: 1, m: 1},
		{g: impl.Grammar{}, h: chain(400), w: "", text: strings.Repeat("\n", 200), e: deletes(7, 9), f: repeats(0, n, n), list: slices.Repeat(edits(deletes(7, 9)), 70), n: -1, m: greatest},
		{g: fullGrammar(), h: fullGrammar(), w: strings.Repeat("a", 2000), text: strings.Repeat("a", 30000), e: copies(0, n, n), f: copies(0, 2000, 0), list: slices.Repeat(edits(copies(0, n, n)), 61), n: n + 1, m: -1},
	}
	check := func(takes string, change func(x *editArgs)) {
		t.Helper()
		for _, x := range fine {
			change(&x)
			for _, f := range editCalls() {
				if strings.Contains(f.takes, takes) {
					failsWith(t, f.name+" of an invalid argument", f.call(x), impl.ErrInvalid)
				}
			}
		}
	}
	for _, bad := range invalidGrammars() {
		check("g", func(x *editArgs) { x.g = bad })
		check("h", func(x *editArgs) { x.h = bad })
	}
	for _, bad := range invalidWords() {
		check("w", func(x *editArgs) { x.w = bad })
	}
	for _, bad := range someInvalidEdits() {
		check("e", func(x *editArgs) { x.e = bad })
		check("f", func(x *editArgs) { x.f = bad })
		for _, at := range []int{0, 1} {
			check("l", func(x *editArgs) { x.list = slices.Insert(slices.Clone(x.list), at, bad) })
			check("l", func(x *editArgs) { x.list = slices.Insert(slices.Clone(x.list), len(x.list)-at, bad) })
		}
	}
}

// TestPromise1EditsErrorOrder checks which of two errors comes first.
func TestPromise1EditsErrorOrder(t *testing.T) {
	const n = impl.MaxLength
	full, one := fullGrammar(), gram("a\n")
	for _, e := range edits(inserts(6, full), deletes(0, 6), copies(0, 6, 0), copies(0, 5, 6), moves(0, 5, 6), moves(0, 5, 3), turns(0, 6), repeats(0, 6, n), replaces(6, 6, "abcd")) {
		failsWith(t, "ApplyEdit: "+nameOf(e), list(impl.ApplyEdit(gram(example), e)), impl.ErrRange)
		failsWith(t, "EditPlain: "+nameOf(e), list(impl.EditPlain("abaab", e)), impl.ErrRange)
		failsWith(t, "InverseEdits: "+nameOf(e), list(impl.InverseEdits(gram(example), e)), impl.ErrRange)
		failsWith(t, "PlaceAfter: "+nameOf(e), list(impl.PlaceAfter(5, e, 0)), impl.ErrRange)
	}
	// Neither the range nor the state matters where there are too many edits.
	bad := slices.Repeat(edits(deletes(8, 9)), 61)
	failsWith(t, "ApplyEdits", list(impl.ApplyEdits(one, bad)), impl.ErrRange)
	failsWith(t, "UndoTo", list(impl.UndoTo(one, bad, 0)), impl.ErrRange)
	failsWith(t, "UndoTo", list(impl.UndoTo(one, bad[:60], 61)), impl.ErrRange)
	failsWith(t, "UndoTo", list(impl.UndoTo(one, bad[:60], -1)), impl.ErrRange)
	failsWith(t, "UndoTo", list(impl.UndoTo(one, bad[:60], 60)), impl.ErrState)
	over, m := crowded("abc")
	failsWith(t, "UndoTo", list(impl.UndoTo(over, edits(deletes(1, m), deletes(1, m)), 0)), impl.ErrState)
	failsWith(t, "UndoTo", list(impl.UndoTo(over, edits(deletes(1, m)), 2)), impl.ErrRange)
	failsWith(t, "UndoTo", list(impl.UndoTo(over, edits(deletes(1, m)), 0)), impl.ErrLimit)
	failsWith(t, "PassEdit", list(impl.PassEdit(inserts(n, one), copies(0, n, 0), true)), impl.ErrRange)
	failsWith(t, "PassEdit", list(impl.PassEdit(inserts(n, one), inserts(0, full), true)), impl.ErrLimit)
	failsWith(t, "MergeEdits", list(impl.MergeEdits(full, inserts(0, one), deletes(0, n))), impl.ErrLimit)
	failsWith(t, "MergeEdits", list(impl.MergeEdits(one, inserts(0, full), deletes(0, 2))), impl.ErrRange)
	failsWith(t, "MergeEdits", list(impl.MergeEdits(one, inserts(0, full), repeats(0, 1, n))), impl.ErrRange)
	failsWith(t, "RunScript", list(impl.RunScript(one, strings.Repeat("insert 0 a\n", 121))), impl.ErrRange)
}
