package tests

import (
	"fmt"
	"slices"
	"testing"

	"loop.example/g01133/impl"
)

// readAlike checks that all servers have the version of a name that its owner has, and read the same.
func readAlike(t *testing.T, d impl.Depot, list []impl.Deed, name int64) impl.Grammar {
	t.Helper()
	owner := name % d.Servers
	versions, code := impl.VersionsAfter(d, list, name)
	want, same := impl.ReadName(d, list, owner, name)
	if code != impl.OK || same != impl.OK {
		t.Fatalf("the owner of %d reads nothing behind %s: %d and %d", name, deedLines(list), code, same)
	}
	for server, version := range versions {
		g, code := impl.ReadName(d, list, int64(server), name)
		sameGrammar(t, fmt.Sprint("the name ", name, " at the server ", server), g, code, want)
		if version != versions[owner] {
			t.Errorf("the versions of %d behind %s are %v", name, deedLines(list), versions)
		}
	}
	return want
}

// spreads holds SpreadDeeds against a world, and checks that its deeds are all done, and that all servers read the same behind them.
func spreads(t *testing.T, w world, list []impl.Deed, name int64) int64 {
	t.Helper()
	text := fmt.Sprint("SpreadDeeds of ", name, " behind ", deedLines(list))
	want, right := w.spread(len(list), name)
	plan, code := impl.SpreadDeeds(w.depot, list, name)
	if right != impl.OK {
		failsWith(t, text, []any{plan, code}, right)
		return right
	}
	is(t, text, fmt.Sprint(deedLines(want), " 0"), deedLines(plan), code)
	all := slices.Concat(list, plan)
	behind, codes := w.after(plan)
	if k := slices.IndexFunc(codes, func(code int64) bool { return code != impl.OK }); k >= 0 {
		t.Errorf("%s: %s is refused", text, deedLine(plan[k]))
	}
	_, before, _ := impl.StoreAfter(w.depot, list)
	storesAlike(t, w.depot, all, behind, int(before)+len(plan))
	readAlike(t, w.depot, all, name)
	return right
}

func TestPromise20Spread(t *testing.T) {
	met := map[string]int{}
	for seed, w := range drawnLists(60, 100) {
		now := worldOf(w.depot)
		for k, d := range w.list {
			if (k+seed)%9 == 0 {
				for name := range w.depot.Names {
					met[impl.CodeName(spreads(t, now, w.list[:k:k], name))]++
				}
			}
			now.do(d)
		}
	}
	for _, code := range []string{"ok", "notfound", "state"} {
		if met[code] < 30 {
			t.Errorf("SpreadDeeds returns %s %d times", code, met[code])
		}
	}
}

// TestPromise20GoesOn spreads all names one after the other, puts again, and spreads again.
func TestPromise20GoesOn(t *testing.T) {
	for k, d := range someDepots() {
		if len(d.Words) == 0 || d.Servers == 1 {
			continue
		}
		next := mixing(uint32(k) + 3)
		var list []impl.Deed
		words := map[int64]int64{}
		for range 40 {
			name, word := int64(next(int(d.Names))), int64(next(len(d.Words)))
			more := append(slices.Clone(list), deeds(fmt.Sprintf("put %d %d", name, word))...)
			if next(3) == 0 {
				more = append(more, deeds(fmt.Sprintf("sweep %d; sweep %d", next(int(d.Servers)), next(int(d.Servers))))...)
			}
			plan, code := impl.SpreadDeeds(d, more, name)
			if code == impl.ErrLimit || len(more) > impl.MaxDeeds {
				continue
			}
			is(t, "the code of SpreadDeeds", "0", code)
			list, words[name] = append(more, plan...), word
			at, bad, none := impl.RefusedDeed(d, list)
			failsWith(t, "RefusedDeed", []any{at, bad, none}, impl.ErrNotFound)
			for name, word := range words {
				sameWords(t, "a name that is spread", readAlike(t, d, list, name), d.Words[word])
			}
		}
		if len(list) < 60 {
			t.Errorf("only %d deeds are done", len(list))
		}
	}
}

// TestPromise20Disturbed does something else between any two deeds of a plan, and in place of each of them.
func TestPromise20Disturbed(t *testing.T) {
	d := depot(3, 1, gram(example), gram("b\nc\n1 0\n2 2\n0 3\n"), blocks(6))
	start := deeds("put 0 0; save 0; offer 0 2 0; put 0 1; save 0; offer 0 1 0; deliver 1; ask 1 0; put 0 2; offer 0 2 0")
	plan, code := impl.SpreadDeeds(d, start, 0)
	is(t, "the code of SpreadDeeds", "0", code)
	for k := range len(plan) + 1 {
		for _, text := range []string{"", "crash 0", "crash 1", "crash 2", "sweep 0", "sweep 1", "sweep 2", "drop 0", "copy 0", "copy 0; copy 0", "save 1", "put 0 0; save 0", "put 0 1", "crash 0; crash 1; crash 2", "deliver 0", "offer 0 1 0; deliver 1", "ask 1 2", "put 0 0; save 0; sweep 0; save 0"} {
			for _, left := range []int{k, min(k+1, len(plan))} {
				if text == "" && left == k {
					continue
				}
				w := drawing(d, 0)
				before := slices.Concat(start, plan[:k], deeds(text))
				for l, one := range append(before, plan[left:]...) {
					w.also(one)
					// Just behind what disturbs, and then from time to time.
					if l+1 >= len(before) && (l+1-len(before))%7 == 0 || l+1 == len(before)+len(plan)-left {
						keepsGuarantees(t, d, storesAlike(t, d, w.list, w.world, w.done()))
					}
				}
				spreads(t, w.world, w.list, 0)
				for server, b := range w.chests {
					g, code := impl.ReadName(d, w.list, int64(server), 0)
					readsWell(t, "ReadName", w, b, 0, g, code)
				}
			}
		}
	}
}

// settled returns the deeds that bring all names to all servers, whatever there is on the wire and in the chests.
func settled(w world) []impl.Deed {
	var plan []impl.Deed
	also := func(text string, numbers ...any) {
		for _, d := range deeds(fmt.Sprintf(text, numbers...)) {
			if w.do(d) == impl.OK {
				plan = append(plan, d)
			}
		}
	}
	servers := w.depot.Servers
	for name := range w.depot.Names {
		also("save %d", name%servers)
	}
	for server := range servers {
		for name := range w.depot.Names {
			for len(w.wire) > 0 {
				also("drop 0")
			}
			also("offer %d %d %d; deliver 0", name%servers, server, name)
		}
		for len(w.chests[server].missingFrom(w.chests[server].pending...)) > 0 && len(plan) <= impl.MaxDeeds {
			for other := range servers {
				also("ask %d %d; deliver 0; deliver 0", server, other)
			}
		}
	}
	return plan
}

// TestPromise20Settles checks that everything comes to all servers in the end, from wherever drawn deeds have led to.
func TestPromise20Settles(t *testing.T) {
	settles := 0
	for _, w := range drawnLists(60, 80) {
		list := append(slices.Clone(w.list), settled(w.copied())...)
		if len(list) > impl.MaxDeeds {
			continue
		}
		versions := map[int64]int64{}
		for name := range w.depot.Names {
			if b := w.chests[name%w.depot.Servers]; b.heads[name].Version > 0 {
				versions[name] = b.heads[name].Version
				sameWords(t, "a name at the end", readAlike(t, w.depot, list, name), w.depot.Words[w.words[version{name, versions[name]}]])
			}
		}
		for server := range w.depot.Servers {
			missing, code := impl.MissingAfter(w.depot, list, server)
			is(t, "MissingAfter at the end", "[] 0", missing, code)
		}
		settles++
	}
	if settles < 30 {
		t.Errorf("only %d of the drawn lists are settled in time", settles)
	}
}

func TestPromise20SpreadByHand(t *testing.T) {
	d := depot(3, 4, gram("a\nb\n0 1\n"), gram("b\n"), impl.Grammar{})
	for _, c := range []struct {
		before string
		name   int64
		want   string
	}{
		{"put 0 2", 0, "save 0; offer 0 1 0; deliver 0; save 1; offer 0 2 0; deliver 0; save 2"},
		{"put 0 1", 0, "save 0; offer 0 1 0; deliver 0; ask 1 0; deliver 0; deliver 0; save 1; offer 0 2 0; deliver 0; ask 2 0; deliver 0; deliver 0; save 2"},
		{"put 1 1", 1, "save 1; offer 1 0 1; deliver 0; ask 0 1; deliver 0; deliver 0; save 0; offer 1 2 1; deliver 0; ask 2 1; deliver 0; deliver 0; save 2"},
		{"put 3 2", 3, "save 0; offer 0 1 3; deliver 0; save 1; offer 0 2 3; deliver 0; save 2"},
		// Nothing but what has not come yet is asked for.
		{"put 0 1; save 0; offer 0 2 0; copy 0; ask 2 0; deliver 1; deliver 1", 0, "drop 0; save 0; offer 0 1 0; deliver 0; ask 1 0; deliver 0; deliver 0; save 1"},
		{"put 0 0; save 0; offer 0 2 0; copy 0; ask 2 0; deliver 1; deliver 1", 0, "drop 0; save 0; offer 0 1 0; deliver 0; ask 1 0; deliver 0; deliver 0; ask 1 0; deliver 0; deliver 0; save 1; offer 0 2 0; deliver 0; ask 2 0; deliver 0; deliver 0; save 2"},
		// A newer version of the owner takes the place of what is Pending.
		{"put 0 0; save 0; offer 0 2 0; deliver 0; put 0 2", 0, "save 0; offer 0 1 0; deliver 0; save 1; offer 0 2 0; deliver 0; save 2"},
		// All of them have it already, saved or not.
		{"put 0 2; save 0; offer 0 2 0; deliver 0; offer 0 1 0; deliver 0", 0, "save 0"},
		{"put 0 2; save 0; offer 0 2 0; deliver 0; offer 0 1 0; copy 0; copy 0; offer 0 2 0; offer 1 2 0", 0, "drop 0; drop 0; save 0"},
		// A crash brings the owner back to what the others have.
		{"put 0 2; save 0; offer 0 2 0; deliver 0; offer 0 1 0; deliver 0; put 0 1; crash 0", 0, "save 0"},
		{"put 0 2; save 0; offer 0 2 0; deliver 0; offer 0 1 0; deliver 0; crash 1", 0, "save 0; offer 0 1 0; deliver 0; save 1"},
	} {
		plan, code := impl.SpreadDeeds(d, deeds(c.before), c.name)
		is(t, "SpreadDeeds behind "+c.before, c.want+" 0", deedLines(plan), code)
		w, _ := worldOf(d).after(deeds(c.before))
		spreads(t, w, deeds(c.before), c.name)
	}
	alone := depot(1, 2, gram("a\n"))
	plan, code := impl.SpreadDeeds(alone, deeds("put 1 0; put 1 0"), 1)
	is(t, "SpreadDeeds of one server", "save 0 0", deedLines(plan), code)
}

func TestPromise20SpreadErrors(t *testing.T) {
	d := depot(3, 4, gram("a\nb\n0 1\n"), gram("b\n"), impl.Grammar{})
	pending := "put 0 0; save 0; offer 0 1 0; deliver 0;"
	for _, c := range []struct {
		before string
		name   int64
		code   int64
	}{
		{"", 0, impl.ErrNotFound}, {"put 0 0", 1, impl.ErrNotFound}, {"put 0 0; crash 0", 0, impl.ErrNotFound}, {"put 0 2", 3, impl.ErrNotFound},
		// A Pending head for another name at any server, also at one that need not be told anything.
		{pending + "put 1 1", 1, impl.ErrState}, {pending + "put 2 1", 2, impl.ErrState}, {pending + "put 3 1", 3, impl.ErrState}, {pending + "put 0 1", 0, impl.OK}, {pending, 0, impl.OK}, {pending, 1, impl.ErrNotFound}, {pending, 3, impl.ErrNotFound},
		{pending + "crash 1; put 1 1", 1, impl.OK}, {pending + "save 1; crash 1; put 1 1", 1, impl.ErrState}, {"put 1 2; save 1; offer 1 0 1; deliver 0; offer 1 2 1; deliver 0;" + pending, 1, impl.ErrState},
		{"put 1 0; save 1; offer 1 0 1; deliver 0; put 0 2", 0, impl.ErrState}, {"put 1 0; save 1; offer 1 2 1; deliver 0; put 3 2", 3, impl.ErrState},
		{pending + "ask 1 0; deliver 0; deliver 0; ask 1 0; deliver 0; put 1 1", 1, impl.ErrState}, {pending + "ask 1 0; deliver 0; deliver 0; ask 1 0; deliver 0; deliver 0; put 1 1", 1, impl.OK},
	} {
		list := deeds(c.before)
		plan, code := impl.SpreadDeeds(d, list, c.name)
		if c.code != impl.OK {
			failsWith(t, "SpreadDeeds behind "+c.before, []any{plan, code}, c.code)
			// This comes ahead of the limit.
			full := append(list, slices.Repeat(deeds("sweep 0"), impl.MaxDeeds-len(list))...)
			plan, code = impl.SpreadDeeds(d, full, c.name)
			failsWith(t, "SpreadDeeds behind many deeds and "+c.before, []any{plan, code}, c.code)
		}
		w, _ := worldOf(d).after(list)
		is(t, "the code behind "+c.before, fmt.Sprint(c.code), spreads(t, w, list, c.name))
	}
}

// TestPromise20SpreadLimits spreads with just as many deeds as there may be, and with one more.
func TestPromise20SpreadLimits(t *testing.T) {
	for _, c := range []struct {
		d      impl.Depot
		before string
	}{
		{depot(1, 1, gram("a\n")), "put 0 0"}, {depot(2, 1, gram("a\n"), impl.Grammar{}), "put 0 1"}, {depot(2, 1, gram("a\nb\n0 1\n")), "put 0 0; save 0; 12*offer 0 1 0"}, {depot(4, 2, gram(example)), "put 0 0"}, {depot(4, 2, blocks(40)), "put 0 0"},
		{depot(2, 1, chain(80)), "put 0 0"}, {depot(4, 1, chain(24)), "put 0 0"},
	} {
		list := deeds(c.before)
		plan, code := impl.SpreadDeeds(c.d, list, 0)
		is(t, "the code of SpreadDeeds", "0", code)
		for _, other := range []string{"sweep 0", "save 9", "drop 20", "put 3 7"} {
			full := append(slices.Clone(list), slices.Repeat(deeds(other), impl.MaxDeeds-len(list)-len(plan))...)
			again, code := impl.SpreadDeeds(c.d, full, 0)
			is(t, "SpreadDeeds with just enough room", deedLines(plan)+" 0", deedLines(again), code)
			s, _, code := impl.StoreAfter(c.d, append(full, again...))
			is(t, "StoreAfter MaxDeeds deeds", fmt.Sprint(c.d.Servers, 0), len(s.Shops), code)
			for len(full) < impl.MaxDeeds {
				full = append(full, deeds(other)...)
				again, code = impl.SpreadDeeds(c.d, full, 0)
				failsWith(t, "SpreadDeeds with too little room", []any{again, code}, impl.ErrLimit)
			}
		}
	}
	// Each rule of a chain needs a mail of its own, and an ask for it.
	met := map[int64]int{}
	for count := 20; count <= impl.MaxRules; count += 38 {
		for servers := int64(2); servers <= impl.MaxServers; servers++ {
			w, _ := worldOf(depot(servers, 1, chain(count))).after(deeds("put 0 0"))
			met[spreads(t, w, deeds("put 0 0"), 0)]++
		}
	}
	if met[impl.OK] < 3 || met[impl.ErrLimit] < 3 {
		t.Errorf("chains are spread, or not: %v", met)
	}
}
