package tests

import (
	"fmt"
	"slices"
	"testing"

	"loop.example/g01133/impl"
)

func TestExampleOfChapter8(t *testing.T) {
	is(t, "limits", "4 4 8 400 1000 20 12 300", impl.MaxServers, impl.MaxNames, impl.MaxWords, impl.MaxNodes, impl.MaxAddress, impl.MaxAsk, impl.MaxWire, impl.MaxDeeds)
	is(t, "kinds", "1 2 3 4 5 6 7 8 9 1 2 3", impl.DdPut, impl.DdSave, impl.DdCrash, impl.DdOffer, impl.DdAsk, impl.DdDeliver, impl.DdCopy, impl.DdDrop, impl.DdSweep,
		impl.MlOffer, impl.MlAsk, impl.MlNodes)
	d := depot(2, 1, gram("a\nb\n0 1\n"))
	put := []impl.Deed{{Kind: impl.DdPut}}
	s, done, code := impl.StoreAfter(d, put)
	nodes := "{3 [{0 a 0 0} {1 b 0 0} {2  0 1}] [{1 2}] [{0 0}]}"
	is(t, "behind put 0 0", "[{"+nodes+" {0 [] [{0 0}] [{0 0}]}} {{0 [] [{0 0}] [{0 0}]} {0 [] [{0 0}] [{0 0}]}}] [] 1 0", s.Shops, s.Wire, done, code)
	plan, code := impl.SpreadDeeds(d, put, 0)
	is(t, "SpreadDeeds", "save 0; offer 0 1 0; deliver 0; ask 1 0; deliver 0; deliver 0; ask 1 0; deliver 0; deliver 0; save 1 0", deedLines(plan), code)
	s, done, code = impl.StoreAfter(d, append(put, plan...))
	there := "{0 [{0 a 0 0} {1 b 0 0} {2  0 1}] [{1 2}] [{0 0}]}"
	is(t, "behind SpreadDeeds", "[{"+nodes+" "+nodes+"} {"+there+" "+there+"}] [] 11 0", s.Shops, s.Wire, done, code)
}

// worksOut checks all functions that are given deeds, and their depot, against a world behind them.
func worksOut(t *testing.T, w *drawn) {
	t.Helper()
	d, name := w.depot, deedLines(w.list)
	at, bad, code := impl.RefusedDeed(d, w.list)
	if first := slices.IndexFunc(w.codes, func(code int64) bool { return code != impl.OK }); first < 0 {
		failsWith(t, "RefusedDeed of "+name, list(at, bad, code), impl.ErrNotFound)
	} else {
		is(t, "RefusedDeed of "+name, fmt.Sprintln(first, w.codes[first], impl.OK), fmt.Sprintln(at, bad, code))
	}
	for k := range d.Names {
		versions, code := impl.VersionsAfter(d, w.list, k)
		is(t, "VersionsAfter "+name, fmt.Sprint(w.versions(k), " 0"), versions, code)
	}
	for server, b := range w.chests {
		missing, code := impl.MissingAfter(d, w.list, int64(server))
		is(t, "MissingAfter "+name, fmt.Sprint(b.missingFrom(b.pending...), " 0"), missing, code)
		for k := range d.Names {
			g, code := impl.ReadName(d, w.list, int64(server), k)
			readsWell(t, "ReadName "+name, w, b, k, g, code)
		}
	}
}

// readsWell checks what has been read of a name in a box: it is that of the nodes, and its word the one that was put.
func readsWell(t *testing.T, name string, w *drawn, b box, k int64, g impl.Grammar, code int64) {
	t.Helper()
	head := b.heads[k]
	if head.Version == 0 {
		failsWith(t, name, list(g, code), impl.ErrNotFound)
		return
	}
	sameGrammar(t, name, g, code, trimmed(b.grammarOf(head)))
	word, known := w.words[version{k, head.Version}]
	if !known {
		t.Fatalf("%s: nobody has put the version %d", name, head.Version)
	}
	sameWords(t, name, g, w.depot.Words[word])
}

// TestPromise19Drawn holds stores against plain ones behind every deed of drawn lists.
func TestPromise19Drawn(t *testing.T) {
	met := map[string]int{}
	for _, all := range drawnLists(60, 90) {
		w := drawing(all.depot, 0)
		for k, d := range all.list {
			w.also(d)
			s := storesAlike(t, w.depot, w.list, w.world, w.done())
			keepsGuarantees(t, w.depot, s)
			if k%15 == 14 || k == len(all.list)-1 {
				worksOut(t, w)
			}
			for _, m := range s.Wire {
				met[fmt.Sprint("a mail ", m.Kind)]++
			}
			met[deedWords[d.Kind]+" "+impl.CodeName(w.codes[k])]++
		}
		for k, b := range w.chests {
			for name, head := range b.heads {
				if head.Version > 0 && k != name%len(w.chests) {
					met["a head that has come in"]++
				}
			}
		}
	}
	for _, one := range []string{"put ok", "put range", "save ok", "crash ok", "offer ok", "offer range", "offer state", "ask ok", "ask range", "ask state", "ask limit", "deliver ok", "deliver range",
		"copy ok", "copy range", "drop ok", "drop range", "sweep ok", "a head that has come in", "a mail 1", "a mail 2", "a mail 3"} {
		if met[one] < 3 {
			t.Errorf("%s comes %d times in drawn deeds", one, met[one])
		}
	}
}

// keepsGuarantees checks what chapter 8 guarantees of every store.
func keepsGuarantees(t *testing.T, d impl.Depot, s impl.Store) {
	t.Helper()
	servers := int64(len(s.Shops))
	nodes := map[int64]impl.Node{}
	known := func(list []impl.Node) {
		t.Helper()
		for k, node := range list {
			if other, met := nodes[node.At]; met && other != node {
				t.Errorf("the nodes %v and %v have been saved", node, other)
			}
			nodes[node.At] = node
			if k > 0 && list[k-1].At >= node.At {
				t.Errorf("the node %v is behind %v", node, list[k-1])
			}
		}
	}
	for server, shop := range s.Shops {
		known(shop.Saved.Nodes)
		for _, c := range []impl.Chest{shop.Chest, shop.Saved} {
			b := boxOf(c)
			for name := range d.Names {
				owner := boxOf(s.Shops[name%servers].Saved)
				head, pending, saved := c.Heads[name], c.Pending[name], owner.heads[name]
				if head.Version > saved.Version && int64(server) != name%servers || pending.Version > saved.Version {
					t.Errorf("the server %d has the heads %v and %v of the name %d, and its owner has saved %v", server, head, pending, name, saved)
				}
				if head.Version == saved.Version && textOf(b.grammarOf(head)) != textOf(owner.grammarOf(saved)) {
					t.Errorf("the server %d has another word than the owner of %d", server, name)
				}
				if missing := b.missingFrom(head); len(missing) > 0 || head.Version == 0 && head.At != 0 {
					t.Errorf("the head %v of the server %d is missing %v", head, server, missing)
				}
				if pending != (impl.Head{}) && (pending.Version <= head.Version || len(b.missingFrom(pending)) == 0) {
					t.Errorf("the server %d has the head %v and the Pending head %v", server, head, pending)
				}
			}
		}
	}
	for _, m := range s.Wire {
		known(m.Nodes)
	}
}

// TestPromise19Refused tells for each kind of deeds by hand which errors there are, in which order.
func TestPromise19Refused(t *testing.T) {
	full := depot(2, 2, gram("a\n"), blocks(33), gram("b\n"))
	wire := "put 0 0; save 0; 12*offer 0 1 0;"
	for _, c := range []struct {
		before, refused string
		code            int64
	}{
		{"", "put 2 0", impl.ErrRange}, {"", "put 0 3", impl.ErrRange}, {"", "put 999 999", impl.ErrRange}, {"", "put 1 3", impl.ErrRange},
		{"", "save 2", impl.ErrRange}, {"", "crash 2", impl.ErrRange}, {"", "sweep 2", impl.ErrRange}, {"", "save 999", impl.ErrRange}, {"", "sweep 4", impl.ErrRange},
		{"", "offer 0 0 0", impl.ErrRange}, {"", "offer 1 1 1", impl.ErrRange}, {"", "offer 0 2 0", impl.ErrRange}, {"", "offer 2 0 0", impl.ErrRange}, {"", "offer 0 1 2", impl.ErrRange}, {"", "offer 2 2 0", impl.ErrRange},
		{"", "offer 0 1 0", impl.ErrState}, {"", "offer 0 1 1", impl.ErrState}, {"put 0 0", "offer 0 1 0", impl.ErrState}, {"put 0 0; save 0", "offer 1 0 0", impl.ErrState}, {"put 0 0; save 0", "offer 0 1 1", impl.ErrState},
		{wire, "offer 0 1 0", impl.ErrLimit}, {wire, "offer 0 1 1", impl.ErrState}, {wire, "offer 1 0 0", impl.ErrState}, {wire, "offer 0 0 0", impl.ErrRange}, {wire, "offer 0 1 2", impl.ErrRange},
		{"", "ask 0 0", impl.ErrRange}, {"", "ask 1 1", impl.ErrRange}, {"", "ask 0 2", impl.ErrRange}, {"", "ask 2 1", impl.ErrRange}, {"", "ask 0 1", impl.ErrState}, {"", "ask 1 0", impl.ErrState},
		{wire, "ask 1 0", impl.ErrState}, {wire + "copy 0", "ask 1 0", impl.ErrLimit}, {wire + "copy 0", "ask 0 1", impl.ErrState}, {wire + "copy 0", "ask 1 1", impl.ErrRange}, {wire + "copy 0", "ask 1 2", impl.ErrRange},
		{wire + "deliver 0", "ask 0 1", impl.ErrState},
		{"", "deliver 0", impl.ErrRange}, {"", "copy 0", impl.ErrRange}, {"", "drop 0", impl.ErrRange}, {wire, "deliver 12", impl.ErrRange}, {wire, "copy 12", impl.ErrRange}, {wire, "drop 12", impl.ErrRange}, {wire + "drop 11", "drop 11", impl.ErrRange},
		{"put 0 1; put 0 0; put 0 2", "save 3", impl.ErrRange},
	} {
		before, refused := deeds(c.before), deeds(c.refused)
		w, codes := worldOf(full).after(before)
		is(t, "what is done before "+c.refused, "0", slices.Max(append(codes, 0)))
		// Whatever is refused changes nothing, and the deeds behind it are done.
		for _, behind := range [][]impl.Deed{nil, deeds("put 1 2; save 1; sweep 1")} {
			all := slices.Concat(before, refused, behind)
			at, code, ok := impl.RefusedDeed(full, all)
			is(t, "RefusedDeed of "+deedLines(all), fmt.Sprint(len(before), " ", c.code, " 0"), at, code, ok)
			one, _ := w.after(behind)
			storesAlike(t, full, all, one, len(all)-1)
		}
		all := slices.Concat(before, slices.Repeat(refused, 3))
		at, code, ok := impl.RefusedDeed(full, all)
		is(t, "RefusedDeed of "+deedLines(all), fmt.Sprint(len(before), " ", c.code, " 0"), at, code, ok)
		storesAlike(t, full, all, w, len(before))
	}
	for _, text := range []string{"", "put 0 0", wire, "put 1 1; save 0; save 1; crash 1; sweep 1; offer 1 0 1; copy 0; drop 0"} {
		at, code, last := impl.RefusedDeed(full, deeds(text))
		failsWith(t, "RefusedDeed of "+text, list(at, code, last), impl.ErrNotFound)
	}
}

// TestPromise19LeftOut puts deeds that are refused between drawn ones.
func TestPromise19LeftOut(t *testing.T) {
	for seed, w := range drawnLists(24, 70) {
		n, next := worldOf(w.depot), mixing(uint32(seed))
		var all, kept []impl.Deed
		for k, d := range w.list {
			for _, one := range deeds("put 4 0; put 0 8; save 4; crash 9; sweep 5; offer 0 0 0; offer 4 0 0; offer 0 1 4; ask 1 1; ask 5 0; ask 0 7; deliver 12; copy 13; drop 14; put 999 999; offer 999 1 0") {
				if next(12) == 0 {
					all = append(all, one)
				}
			}
			all = append(all, d)
			n.do(d)
			if w.codes[k] == impl.OK {
				kept = append(kept, d)
			}
			if k%10 == 9 {
				storesAlike(t, w.depot, all, n, len(kept))
				storesAlike(t, w.depot, kept, n, len(kept))
			}
		}
		if at, code, last := impl.RefusedDeed(w.depot, kept); last != impl.ErrNotFound {
			t.Errorf("RefusedDeed of %s: got %d and %d", deedLines(kept), at, code)
		}
	}
}

// TestPromise19MaxDeeds checks lists of exactly MaxDeeds deeds, and longer ones.
func TestPromise19MaxDeeds(t *testing.T) {
	d := depot(3, 2, gram(example), gram("a\nb\n1 0\n"), blocks(9))
	w := drawing(d, 77)
	for len(w.list) < impl.MaxDeeds {
		w.draw()
	}
	full := worldOf(d)
	codes := []int64{}
	for _, d := range w.list[:impl.MaxDeeds] {
		codes = append(codes, full.do(d))
	}
	refused := 0
	for _, code := range codes {
		if code != impl.OK {
			refused++
		}
	}
	storesAlike(t, d, w.list[:impl.MaxDeeds], full, impl.MaxDeeds-refused)
	for _, more := range [][]impl.Deed{append(w.list[:impl.MaxDeeds:impl.MaxDeeds], deeds("save 0")...), append(w.list[:impl.MaxDeeds:impl.MaxDeeds], deeds("save 99")...), slices.Repeat(deeds("save 99"), impl.MaxDeeds+1), make([]impl.Deed, 0, 5)} {
		if len(more) == 0 {
			continue
		}
		s, done, code := impl.StoreAfter(d, more)
		failsWith(t, "StoreAfter of too many deeds", list(s, done, code), impl.ErrRange)
		at, bad, code := impl.RefusedDeed(d, more)
		failsWith(t, "RefusedDeed of too many deeds", list(at, bad, code), impl.ErrRange)
		g, code := impl.ReadName(d, more, 0, 0)
		failsWith(t, "ReadName of too many deeds", list(g, code), impl.ErrRange)
		versions, code := impl.VersionsAfter(d, more, 0)
		failsWith(t, "VersionsAfter too many deeds", list(versions, code), impl.ErrRange)
		missing, code := impl.MissingAfter(d, more, 0)
		failsWith(t, "MissingAfter too many deeds", list(missing, code), impl.ErrRange)
		plan, code := impl.SpreadDeeds(d, more, 0)
		failsWith(t, "SpreadDeeds behind too many deeds", list(plan, code), impl.ErrRange)
	}
	at, bad, code := impl.RefusedDeed(d, slices.Repeat(deeds("save 0"), impl.MaxDeeds))
	failsWith(t, "RefusedDeed of MaxDeeds deeds", list(at, bad, code), impl.ErrNotFound)
	s, done, code := impl.StoreAfter(d, slices.Repeat(deeds("save 99"), impl.MaxDeeds))
	is(t, "nothing is done", "3 0 0", len(s.Shops), done, code)
}

// TestPromise19NoSuch checks servers and names that there are not.
func TestPromise19NoSuch(t *testing.T) {
	for _, d := range someDepots() {
		for _, number := range []int64{least, -1, -2, 0, 1, 2, 3, 4, 5, 999, greatest} {
			server, name := number >= 0 && number < d.Servers, number >= 0 && number < d.Names
			g, code := impl.ReadName(d, deeds("put 0 0"), number, 0)
			if !server {
				failsWith(t, "ReadName of no server", list(g, code), impl.ErrRange)
			} else if code == impl.ErrRange {
				t.Errorf("the server %d cannot be read", number)
			}
			g, code = impl.ReadName(d, nil, 0, number)
			if !name {
				failsWith(t, "ReadName of no name", list(g, code), impl.ErrRange)
			} else {
				failsWith(t, "ReadName of nothing", list(g, code), impl.ErrNotFound)
			}
			missing, code := impl.MissingAfter(d, nil, number)
			if !server {
				failsWith(t, "MissingAfter of no server", list(missing, code), impl.ErrRange)
			} else {
				is(t, "MissingAfter", "[] 0", missing, code)
			}
			versions, code := impl.VersionsAfter(d, nil, number)
			if !name {
				failsWith(t, "VersionsAfter of no name", list(versions, code), impl.ErrRange)
			} else {
				is(t, "VersionsAfter", fmt.Sprint(make([]int64, d.Servers), " 0"), versions, code)
			}
			plan, code := impl.SpreadDeeds(d, nil, number)
			if !name {
				failsWith(t, "SpreadDeeds of no name", list(plan, code), impl.ErrRange)
			} else {
				failsWith(t, "SpreadDeeds of nothing", list(plan, code), impl.ErrNotFound)
			}
		}
	}
}
