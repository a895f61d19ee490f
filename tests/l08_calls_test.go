package tests

import (
	"fmt"
	"runtime"
	"slices"
	"strings"
	"testing"

	"loop.example/g01133/impl"
)

// storeArgs are arguments for all functions of chapter 8.
type storeArgs struct {
	d            impl.Depot
	list         []impl.Deed
	server, name int64
	text         string // the text of a deed or a script
	one          impl.Deed
}

// storeCall is a call of a function of chapter 8, which returns its results, the code last if there is one.
type storeCall struct {
	name  string
	takes string // which arguments it is given that may not be valid
	call  func(x storeArgs) []any
}

// storeCalls returns calls of all functions that return a code.
func storeCalls() []storeCall {
	type args = storeArgs
	return []storeCall{
		{"ReadDeed", "", func(x args) []any { r, c := impl.ReadDeed(x.text); return list(r, c) }},
		{"StoreAfter", "dl", func(x args) []any { r, n, c := impl.StoreAfter(x.d, x.list); return list(r, n, c) }},
		{"RefusedDeed", "dl", func(x args) []any { r, n, c := impl.RefusedDeed(x.d, x.list); return list(r, n, c) }},
		{"ReadName", "dlsn", func(x args) []any { r, c := impl.ReadName(x.d, x.list, x.server, x.name); return list(r, c) }},
		{"VersionsAfter", "dln", func(x args) []any { r, c := impl.VersionsAfter(x.d, x.list, x.name); return list(r, c) }},
		{"MissingAfter", "dls", func(x args) []any { r, c := impl.MissingAfter(x.d, x.list, x.server); return list(r, c) }},
		{"SpreadDeeds", "dln", func(x args) []any { r, c := impl.SpreadDeeds(x.d, x.list, x.name); return list(r, c) }},
		{"RunStore", "d", func(x args) []any { r, c := impl.RunStore(x.d, x.text); return list(r, c) }},
	}
}

// allStoreCalls returns calls of all functions of chapter 8, those that return no code with OK.
func allStoreCalls() []storeCall {
	type args = storeArgs
	const ok = int64(impl.OK)
	return append(storeCalls(),
		storeCall{"ValidDepot", "", func(x args) []any { return list(impl.ValidDepot(x.d), ok) }},
		storeCall{"ValidDeed", "", func(x args) []any { return list(impl.ValidDeed(x.one), ok) }},
		storeCall{"DeedText", "", func(x args) []any { return list(impl.DeedText(x.one), ok) }},
	)
}

// storeInTime calls a function, which has to return within a few seconds, with zero results beside an error.
func storeInTime(t *testing.T, f storeCall, x storeArgs) []any {
	t.Helper()
	return inSeconds(t, f.name, func() []any { return f.call(x) })
}

// fullDepots returns depots of MaxServers servers, MaxNames names and MaxWords words, some of which have MaxRules rules.
func fullDepots() []impl.Depot {
	many := manyGrammars()
	wide := make([]impl.Grammar, impl.MaxWords)
	for k := range wide {
		wide[k] = wideGrammar(560, uint32(k))
	}
	return []impl.Depot{depot(4, 4, many[:8]...), depot(4, 4, many[len(many)-8:]...), depot(4, 1, chain(400), distinct(400), distinct(399), chain(399), turnedChain(400), doubled(chain(360), 40), fullGrammar(), impl.Grammar{}), depot(2, 4, wide...), depot(4, 3, wide...)}
}

// fullLists returns lists of MaxDeeds deeds that let servers do as much as they can.
func fullLists() [][]impl.Deed {
	var lists [][]impl.Deed
	for _, text := range []string{
		"put 0 0; put 0 1; put 0 2; put 0 3; put 0 4; sweep 0", "put 0 0; put 1 1; put 2 2; put 3 3; save 0; save 1", "put 0 0; save 0; offer 0 1 0; deliver 0; ask 1 0; copy 0; copy 0; deliver 0; deliver 0; deliver 0", "put 0 6; save 0; crash 0; put 0 7; sweep 0; put 0 5",
		"put 0 0; save 0; offer 0 1 0; deliver 0; offer 0 2 0; deliver 0; ask 1 0; ask 2 0; deliver 0; deliver 0; deliver 0; deliver 0; sweep 1; save 1", "put 0 1; put 0 0", "save 0", "offer 0 1 0", "sweep 3",
	} {
		lists = append(lists, slices.Repeat(deeds(text), impl.MaxDeeds)[:impl.MaxDeeds])
	}
	start := deeds("put 0 0; save 0; offer 0 1 0; deliver 0")
	lists = append(lists, append(start, slices.Repeat(deeds("ask 1 0; deliver 0; deliver 0"), 98)...), slices.Concat(start, slices.Repeat(deeds("ask 1 0; copy 0; copy 0; copy 0; deliver 0; deliver 2; deliver 1; deliver 0"), 37)))
	return lists
}

// someDeedLists returns lists of deeds, those at the limits, too.
func someDeedLists() [][]impl.Deed {
	lists := append(fullLists(), nil, []impl.Deed{}, someValidDeeds(), someInvalidDeeds(), someValidDeeds()[:12], make([]impl.Deed, 250000), slices.Repeat(deeds("put 0 0"), 250000), slices.Repeat(deeds("save 9"), impl.MaxDeeds+1))
	for _, w := range drawnLists(24, 60) {
		lists = append(lists, w.list, w.list[:9])
	}
	return lists
}

// storeTexts returns texts of all kinds, those at the limits, too.
func storeTexts() []string {
	var ask strings.Builder
	ask.WriteString("put 0 0\nsave 0\noffer 0 1 0\ndeliver 0\n")
	for range 29 {
		ask.WriteString("ask 1 0\ndeliver 0\ndeliver 0\nmissing 1\n")
	}
	long := strings.Repeat("put 0 0\nversions 0\nlength 0 0\n", 39)
	return append(wrongDeedTexts(), "", "\n", ask.String(), long, long+strings.Repeat("x", impl.MaxScriptText-len(long)), strings.Repeat("put 0 0\nput 0 1\nput 0 2\nsweep 0\nsave 0\ncrash 0\n", 20), strings.Repeat("length 0 0\n", 120), strings.Repeat("\n", 121), strings.Repeat("put 0 0\n", 120), "put 0 0\nlength 0 0")
}

// TestPromise1StoresReturn gives every function arguments of all kinds, each call within a few seconds.
func TestPromise1StoresReturn(t *testing.T) {
	depots := slices.Concat(someDepots(), fullDepots(), someInvalidDepots())
	lists, texts := someDeedLists(), storeTexts()
	all := append(someValidDeeds(), someInvalidDeeds()...)
	numbers := append(someNumbers(), 0, 0, 1, 1, 2, 3, 4)
	for _, f := range allStoreCalls() {
		for k := range 300 {
			next := mixing(uint32(k * 7793))
			storeInTime(t, f, storeArgs{depots[next(len(depots))], lists[next(len(lists))], numbers[next(len(numbers))], numbers[next(len(numbers))], texts[next(len(texts))], all[next(len(all))]})
		}
	}
}

// TestPromise1StoresTakeAll gives every function MaxDeeds deeds, words of MaxRules rules and texts of MaxScriptText bytes.
func TestPromise1StoresTakeAll(t *testing.T) {
	texts := storeTexts()
	for k, d := range fullDepots() {
		is(t, "ValidDepot", "true", impl.ValidDepot(d))
		for l, list := range fullLists() {
			x := storeArgs{d: d, list: list, name: 0, server: int64(l) % d.Servers, text: texts[len(texts)-1-(k+l)%9]}
			for _, f := range storeCalls() {
				right := []int64{impl.OK}
				switch f.name {
				case "ReadDeed":
					right = []int64{impl.ErrSyntax}
				case "RunStore":
					right = append(right, impl.ErrRange)
				case "RefusedDeed", "ReadName":
					right = append(right, impl.ErrNotFound)
				case "SpreadDeeds":
					x.list = list[:len(list)-k*40]
					right = append(right, impl.ErrNotFound, impl.ErrState, impl.ErrLimit)
				}
				if code := codeOf(storeInTime(t, f, x)); !slices.Contains(right, code) {
					t.Errorf("%s behind %.60s: got the code %d", f.name, deedLines(list), code)
				}
				x.list = list
			}
		}
	}
}

// rangesOfStore returns the memory of a store.
func rangesOfStore(s impl.Store) []memoryRange {
	ranges := []memoryRange{rangeOf(s.Shops), rangeOf(s.Wire)}
	for _, shop := range s.Shops {
		for _, c := range []impl.Chest{shop.Chest, shop.Saved} {
			ranges = append(ranges, rangeOf(c.Nodes), rangeOf(c.Heads), rangeOf(c.Pending))
		}
	}
	for _, m := range s.Wire {
		ranges = append(ranges, rangeOf(m.List), rangeOf(m.Nodes))
	}
	return ranges
}

// spoilStore overwrites all that is in the memory of a store.
func spoilStore(s impl.Store) {
	for _, shop := range s.Shops {
		for _, c := range []impl.Chest{shop.Chest, shop.Saved} {
			spoil(c.Nodes)
			spoil(c.Heads)
			spoil(c.Pending)
		}
	}
	for _, m := range s.Wire {
		spoil(m.List)
		spoil(m.Nodes)
	}
	spoil(s.Shops)
	spoil(s.Wire)
}

// roomyDepot returns the same depot with further elements behind its own in memory.
func roomyDepot(d impl.Depot) impl.Depot {
	d.Words = roomy(d.Words, rules(letter("spare")))
	for k, g := range d.Words {
		d.Words[k] = roomyGrammar(g)
	}
	return d
}

// memoryOfStoreArgs tells all that is in the memory of arguments.
func memoryOfStoreArgs(x storeArgs) string {
	text := fmt.Sprintln(x.d.Servers, x.d.Names) + memoryOf(x.d.Words) + memoryOf(x.list)
	for _, g := range x.d.Words {
		text += memoryOf(g.Rules)
	}
	return text
}

// TestPromise1StoresRepeat calls every function several times, the first results being overwritten in between, and goroutines
// running on one processor or on several, and checks that arguments stay as they are, and what is behind them in memory, and
// that no memory is shared.
func TestPromise1StoresRepeat(t *testing.T) {
	texts := storeTexts()
	for k, w := range drawnLists(48, 80) {
		next := mixing(uint32(k))
		text := texts[next(len(texts))]
		if k%2 == 0 {
			text = strings.ReplaceAll(deedLines(w.list[:30]), "; ", "\nversions 0\nmissing 1\nlength 0 0\n")
		}
		x := storeArgs{roomyDepot(w.depot), roomy(w.list[:next(len(w.list))], deed(-7, -8, 0, 0)), int64(next(int(w.depot.Servers))), int64(next(int(w.depot.Names))), text, w.list[next(9)]}
		for _, f := range allStoreCalls() {
			before := memoryOfStoreArgs(x)
			first := f.call(x)
			want := fmt.Sprintf("%#v", first)
			sharesWithNone(t, f.name, rangesOf(first...), rangesOf(x.d, x.list))
			if s, stored := first[0].(impl.Store); stored {
				spoilStore(s)
			}
			spoilAll(first)
			for _, processors := range []int{1, 2, 0} {
				all := runtime.GOMAXPROCS(processors)
				again := f.call(x)
				runtime.GOMAXPROCS(all)
				if got := fmt.Sprintf("%#v", again); got != want {
					t.Errorf("%s: got %.200s again, and %.200s at first", f.name, got, want)
				}
			}
			if memoryOfStoreArgs(x) != before {
				t.Errorf("%s has changed an argument", f.name)
			}
		}
	}
}

// TestPromise1StoresApart checks stores with mails of all kinds, chests that are saved and such that are brought back.
func TestPromise1StoresApart(t *testing.T) {
	d := roomyDepot(depot(2, 2, gram("a\nb\n0 1\n"), gram("d\n"), impl.Grammar{}))
	for _, text := range []string{
		"put 0 0; save 0; offer 0 1 0; copy 0; ask 1 0; copy 1; copy 1; deliver 2; save 1; crash 1; ask 1 0; copy 3", "put 0 0; save 0; save 0; crash 0", "put 1 1; save 1; crash 1; sweep 1; save 1", "", "put 0 2; save 0; crash 0", "put 0 0; crash 0",
		"put 0 0; save 0; offer 0 1 0; copy 0; ask 1 0; copy 1; copy 2; copy 2; save 1; sweep 1; crash 1",
	} {
		list := deeds(text)
		s, done, code := impl.StoreAfter(d, list)
		is(t, "StoreAfter "+text, fmt.Sprint(len(list), " 0"), done, code)
		sharesWithNone(t, "StoreAfter "+text, rangesOf(s), rangesOf(d, list))
	}
}

// TestPromise1StoresNil checks that no words and no deeds are the same whether they are nil or not.
func TestPromise1StoresNil(t *testing.T) {
	nothing := storeArgs{d: depot(2, 1)}
	bare := storeArgs{d: impl.Depot{Servers: 2, Names: 1, Words: []impl.Grammar{}}, list: []impl.Deed{}}
	const empty = "{{0 [] [{0 0}] [{0 0}]} {0 [] [{0 0}] [{0 0}]}}"
	for name, want := range map[string]string{
		"ReadDeed": "{0 0 0 0} 5", "StoreAfter": "{[" + empty + " " + empty + "] []} 0 0", "RefusedDeed": "0 0 6", "ReadName": "{[]} 6", "VersionsAfter": "[0 0] 0", "MissingAfter": "[] 0", "SpreadDeeds": "[] 6", "RunStore": " 0",
		"ValidDepot": "true 0", "ValidDeed": "false 0", "DeedText": " 0",
	} {
		for _, f := range allStoreCalls() {
			if f.name == name {
				is(t, name+" of nil", want, f.call(nothing)...)
				is(t, name+" of nothing", want, f.call(bare)...)
			}
		}
	}
	// A word without rules, nil or not.
	for _, g := range []impl.Grammar{{}, {Rules: []impl.Rule{}}} {
		s, done, code := impl.StoreAfter(depot(1, 1, g), deeds("put 0 0"))
		is(t, "the empty word", "[{{0 [] [{1 -1}] [{0 0}]} {0 [] [{0 0}] [{0 0}]}}] 1 0", s.Shops, done, code)
	}
}

// TestPromise1StoresInvalid checks that an argument that is not valid comes ahead of all other errors.
func TestPromise1StoresInvalid(t *testing.T) {
	d := depot(2, 2, gram(example), impl.Grammar{})
	fine := []storeArgs{
		{d: d, list: deeds("put 0 0; save 0"), text: "put 0 0"},
		{d: d, list: deeds("put 0 0; put 1 9"), server: 2, name: 2, text: strings.Repeat("\n", 200)},
		{d: d, list: slices.Repeat(deeds("put 9 0"), impl.MaxDeeds+1), server: -1, name: greatest, text: strings.Repeat("a", 30000)},
		{d: d, server: 1, name: 1, text: "length 0 0"},
	}
	check := func(takes string, change func(x *storeArgs)) {
		t.Helper()
		for _, x := range fine {
			change(&x)
			for _, f := range storeCalls() {
				if strings.Contains(f.takes, takes) {
					failsWith(t, f.name+" of an invalid argument", f.call(x), impl.ErrInvalid)
				}
			}
		}
	}
	for _, bad := range someInvalidDepots() {
		check("d", func(x *storeArgs) { x.d = bad })
	}
	for _, bad := range someInvalidDeeds() {
		for _, at := range []int{0, 1, 2} {
			check("l", func(x *storeArgs) { x.list = slices.Insert(slices.Clone(x.list), min(at, len(x.list)), bad) })
			check("l", func(x *storeArgs) { x.list = slices.Insert(slices.Clone(x.list), max(len(x.list)-at, 0), bad) })
		}
	}
}

// TestPromise1StoresErrorOrder checks which of two errors comes first.
func TestPromise1StoresErrorOrder(t *testing.T) {
	d := depot(2, 1, gram(example))
	full := slices.Repeat(deeds("put 0 0"), impl.MaxDeeds)
	for _, f := range storeCalls() {
		for _, number := range []int64{least, -1, 2, greatest} {
			for _, list := range [][]impl.Deed{nil, deeds("put 9 9"), full, append(full[:impl.MaxDeeds:impl.MaxDeeds], full...)} {
				if strings.Contains(f.takes, "s") {
					failsWith(t, f.name+" of no server", f.call(storeArgs{d: d, list: list, server: number}), impl.ErrRange)
				}
				if strings.Contains(f.takes, "n") {
					failsWith(t, f.name+" of no name", f.call(storeArgs{d: d, list: list, name: number}), impl.ErrRange)
				}
			}
		}
	}
	// There is no head, and there would be no room either.
	nothing := slices.Repeat(deeds("sweep 0"), impl.MaxDeeds)
	failsWith(t, "SpreadDeeds", list(impl.SpreadDeeds(d, nothing, 0)), impl.ErrNotFound)
	failsWith(t, "SpreadDeeds", list(impl.SpreadDeeds(d, full, 0)), impl.ErrLimit)
	failsWith(t, "ReadName", list(impl.ReadName(d, nothing, 1, 0)), impl.ErrNotFound)
	failsWith(t, "RunStore", list(impl.RunStore(d, strings.Repeat("put 9 9\n", 121))), impl.ErrRange)
}
