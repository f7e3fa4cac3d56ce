package vers_test

import (
	"math"
	"testing"

	"indenture/api"
	"indenture/vers"
)

// noClients are such as nothing follows from; some of them are 1 to 4 in their lowest bits.
func noClients() []int {
	return []int{0, 5, -1, 6, -2, -3, -4, 1 << 8, 1<<8 + 1, 1<<16 + 2, 1 << 32, 1<<32 + 3, -1<<32 + 4, -1 << 63, -1<<63 + 1, math.MaxInt, math.MaxInt - 1, math.MinInt + 4}
}

// wantNext is what the chapter says, where there is one more than each number.
func wantNext(last api.Vers, client int) api.Vers {
	v := api.Vers{}
	v.Client = client
	v.Count = last.Count + 1
	v.Prev = wantHash(last)
	v.Root = last.Root
	v.Epoch = last.Epoch
	for i := range 4 {
		v.Vec[i] = last.Vec[i]
		if i+1 == client {
			v.Vec[i]++
			v.N = v.Vec[i]
		}
	}
	return v
}

// hasNext tells whether client can have one more, and all.
func hasNext(last api.Vers, client int) bool {
	return last.Count < math.MaxInt64 && last.Vec[client-1] < math.MaxInt64
}

// wantFollows is what the chapter says.
func wantFollows(last, v api.Vers) bool {
	if v.Client < 1 || v.Client > 4 || !hasNext(last, v.Client) {
		return false
	}
	want := wantNext(last, v.Client)
	want.Root, want.Tag = v.Root, v.Tag
	if v == want {
		return true
	}
	want.Epoch++
	return v == want && want.Epoch > last.Epoch
}

func checkNext(t testing.TB, what string, last api.Vers, client int) {
	t.Helper()
	want := api.Vers{}
	if hasNext(last, client) {
		want = wantNext(last, client)
	}
	if got := vers.Next(last, client); got != want {
		t.Errorf("P14.2: %s: Next of %v, client %d: %v, want %v", what, last, client, got, want)
	}
}

func checkFollows(t testing.TB, what string, last, v api.Vers, want bool) {
	t.Helper()
	if vers.Follows(last, v) != want {
		t.Errorf("P14.2: %s: Follows of %v, %v is not %v", what, last, v, want)
	}
}

// eachNext hands f each structure and what is next to it, where there is such, by each client.
func eachNext(f func(last, v api.Vers)) {
	for _, last := range structures() {
		for client := 1; client <= 4; client++ {
			if hasNext(last, client) {
				f(last, wantNext(last, client))
			}
		}
	}
}

func TestNextBehindNothing(t *testing.T) {
	for client := 1; client <= 4; client++ {
		want := api.Vers{Client: client, N: 1, Count: 1}
		want.Vec[client-1] = 1
		if got := vers.Next(api.Vers{}, client); got != want {
			t.Errorf("P14.2: Next behind nothing, client %d: %v, want %v", client, got, want)
		}
		checkFollows(t, "the first one", api.Vers{}, want, true)
	}
}

// TestNextWrittenOut has the Prev of another program.
func TestNextWrittenOut(t *testing.T) {
	prev := api.Hash{
		0x7d, 0x25, 0xc8, 0x03, 0x20, 0xc1, 0xc1, 0x7e, 0x01, 0x56, 0xae, 0x5e, 0x8c, 0x9c, 0x57, 0xbc,
		0x5a, 0x04, 0xd4, 0x7f, 0x6a, 0xec, 0xbc, 0x9c, 0xbe, 0x97, 0x3a, 0x2c, 0x3e, 0xfe, 0xb9, 0x9d,
	}
	for client, want := range map[int]api.Vers{
		1: {Client: 1, N: 2, Count: 10, Prev: prev, Root: counted(0x40), Epoch: 4, Vec: [4]int64{2, 3, 5, 0}},
		2: {Client: 2, N: 4, Count: 10, Prev: prev, Root: counted(0x40), Epoch: 4, Vec: [4]int64{1, 4, 5, 0}},
		3: {Client: 3, N: 6, Count: 10, Prev: prev, Root: counted(0x40), Epoch: 4, Vec: [4]int64{1, 3, 6, 0}},
		4: {Client: 4, N: 1, Count: 10, Prev: prev, Root: counted(0x40), Epoch: 4, Vec: [4]int64{1, 3, 5, 1}},
	} {
		if got := vers.Next(some(), client); got != want {
			t.Errorf("P14.2: Next of client %d: %v, want %v", client, got, want)
		}
	}
}

func TestNext(t *testing.T) {
	for _, last := range structures() {
		for client := 1; client <= 4; client++ {
			checkNext(t, "behind others", last, client)
		}
		eachTurned(last, func(name string, turned api.Vers) {
			checkNext(t, name+" turned", turned, 3)
		})
	}
}

// TestNextOfEachNumber takes each number of the last one over its edges.
func TestNextOfEachNumber(t *testing.T) {
	for _, n := range edges() {
		for client := 1; client <= 4; client++ {
			last := some()
			last.Client = int(n)
			checkNext(t, "the last Client", last, client)
			for _, p := range parts() {
				last := some()
				*p.of(&last) = n
				checkNext(t, "the last "+p.name, last, client)
			}
		}
	}
}

func TestNextOfNoClient(t *testing.T) {
	for _, last := range structures() {
		for _, client := range noClients() {
			if got := vers.Next(last, client); got != (api.Vers{}) {
				t.Errorf("P14.2: Next of %v, client %d: %v, want zero", last, client, got)
			}
		}
	}
}

// TestNoneBehindTheGreatest holds that no sum wraps: behind the greatest number there is no next one, and what would be its wrapped form does not follow.
func TestNoneBehindTheGreatest(t *testing.T) {
	for client := 1; client <= 4; client++ {
		for _, last := range []api.Vers{
			{Count: math.MaxInt64},
			{Client: client, N: math.MaxInt64, Count: math.MaxInt64, Root: counted(1), Epoch: 5, Tag: counted(2)},
		} {
			checkGreatest(t, last, client)
			last.Count = math.MaxInt64 - 1
			checkNext(t, "one below the greatest Count", last, client)
			checkFollows(t, "one below the greatest Count", last, wantNext(last, client), true)
			last.Vec[client-1] = math.MaxInt64 - 1
			checkNext(t, "one below the greatest of Vec", last, client)
			checkFollows(t, "one below the greatest of Vec", last, wantNext(last, client), true)
			last.Vec[client-1] = math.MaxInt64
			checkGreatest(t, last, client)
			last.Vec = [4]int64{math.MaxInt64, math.MaxInt64, math.MaxInt64, math.MaxInt64}
			last.Vec[client-1] = 7
			checkNext(t, "others at the greatest of Vec", last, client)
			checkFollows(t, "others at the greatest of Vec", last, wantNext(last, client), true)
		}
	}
}

func checkGreatest(t *testing.T, last api.Vers, client int) {
	t.Helper()
	if got := vers.Next(last, client); got != (api.Vers{}) {
		t.Errorf("P0.6: Next of %v, client %d: %v, want zero", last, client, got)
	}
	checkFollows(t, "P0.6: wrapped", last, wantNext(last, client), false)
	checkFollows(t, "P0.6: zero", last, api.Vers{}, false)
	checkFollows(t, "P0.6: of the client alone", last, api.Vers{Client: client}, false)
	checkFollows(t, "P0.6: the last again", last, last, false)
}

// TestFollows holds what follows: Next's, with another Root, Tag, and an Epoch of one more.
func TestFollows(t *testing.T) {
	eachNext(func(last, v api.Vers) {
		checkFollows(t, "as Next tells", last, v, true)
		for _, h := range []api.Hash{{}, full(), counted(0x33), v.Prev} {
			w := v
			w.Root = h
			checkFollows(t, "another Root", last, w, true)
			w.Tag = h
			checkFollows(t, "another Root and Tag", last, w, true)
			w.Root = v.Root
			checkFollows(t, "another Tag", last, w, true)
			if v.Epoch < math.MaxInt64 {
				w.Root, w.Epoch = h, v.Epoch+1
				checkFollows(t, "another Root and Tag, one epoch more", last, w, true)
				w.Root, w.Tag = v.Root, v.Tag
				checkFollows(t, "one epoch more", last, w, true)
			}
		}
	})
}

// TestFollowsOfEachBit turns each bit of each field of what is next, in its own epoch and in one more.
func TestFollowsOfEachBit(t *testing.T) {
	eachNext(func(last, v api.Vers) {
		for more := range int64(2) {
			w := v
			if w.Epoch < math.MaxInt64 {
				w.Epoch += more
			}
			eachTurned(w, func(name string, turned api.Vers) {
				free := name == "Root" || name == "Tag"
				epoch := name == "Epoch" && (turned.Epoch == last.Epoch || last.Epoch < math.MaxInt64 && turned.Epoch == last.Epoch+1)
				checkFollows(t, name+" turned", last, turned, free || epoch)
			})
		}
	})
}

// TestFollowsOfEachNumber puts other numbers in, with a Root and a Tag of their own.
func TestFollowsOfEachNumber(t *testing.T) {
	eachNext(func(last, v api.Vers) {
		v.Root, v.Tag = counted(0x21), counted(0x22)
		for _, p := range parts() {
			if p.name == "Epoch" {
				continue
			}
			for _, n := range append(edges(), *p.of(&v)-1, *p.of(&v)+1, *p.of(&last), v.N, v.Count) {
				w := v
				*p.of(&w) = n
				checkFollows(t, p.name, last, w, n == *p.of(&v))
			}
		}
	})
}

// TestFollowsInEpochs takes the Epochs of both over their edges: one more than the greatest there is none.
func TestFollowsInEpochs(t *testing.T) {
	near := append(edges(), -3, 6, 7)
	for client := 1; client <= 4; client++ {
		for _, early := range near {
			last := some()
			last.Epoch = early
			v := wantNext(last, client)
			for _, late := range near {
				v.Epoch = late
				same, more := late == early, early < math.MaxInt64 && late == early+1
				checkFollows(t, "epochs", last, v, same || more)
			}
			for by := int64(-5); by <= 5; by++ {
				if by > 0 && early > math.MaxInt64-by || by < 0 && early < math.MinInt64-by {
					continue
				}
				v.Epoch = early + by
				checkFollows(t, "epochs near one another", last, v, by == 0 || by == 1)
			}
		}
	}
}

// TestFollowsOfNoClient holds that nothing follows that is of no client, not even where it is just what Next tells.
func TestFollowsOfNoClient(t *testing.T) {
	for _, last := range structures() {
		checkFollows(t, "a zero one", last, api.Vers{}, false)
		checkFollows(t, "a zero one in its epoch", last, api.Vers{Epoch: last.Epoch}, false)
		checkFollows(t, "a zero one but for what is free", last, api.Vers{Root: last.Root, Epoch: last.Epoch, Tag: last.Tag}, false)
		checkFollows(t, "the last again", last, last, false)
		for _, client := range noClients() {
			checkFollows(t, "no client alone", last, api.Vers{Client: client}, false)
			checkFollows(t, "no client, in its epoch", last, api.Vers{Client: client, Root: last.Root, Epoch: last.Epoch}, false)
			for good := 1; good <= 4; good++ {
				if hasNext(last, good) {
					v := wantNext(last, good)
					v.Client = client
					checkFollows(t, "no client, all else of one", last, v, false)
				}
			}
			if last.Count < math.MaxInt64 {
				checkFollows(t, "no client, nothing in Vec", last, wantNext(last, client), false)
			}
		}
	}
}

// TestFollowsOfAnotherClient has the one client say what the other would.
func TestFollowsOfAnotherClient(t *testing.T) {
	eachNext(func(last, v api.Vers) {
		for client := 1; client <= 4; client++ {
			w := v
			w.Client = client
			checkFollows(t, "another client", last, w, client == v.Client)
			w.N = w.Vec[client-1]
			checkFollows(t, "another client, its N", last, w, client == v.Client)
			if hasNext(last, client) {
				w.N = last.Vec[client-1] + 1
				checkFollows(t, "another client, one more for it", last, w, client == v.Client)
			}
		}
	})
}

// TestFollowsBehindAnother holds that what is next to one follows no other.
func TestFollowsBehindAnother(t *testing.T) {
	eachNext(func(last, v api.Vers) {
		for _, other := range structures() {
			checkFollows(t, "behind another", other, v, other == last)
		}
		eachTurned(last, func(name string, turned api.Vers) {
			checkFollows(t, "behind one with "+name+" turned", turned, v, false)
		})
		checkFollows(t, "behind itself", v, v, false)
		checkFollows(t, "the other way round", v, last, false)
	})
}

// TestManyInARow makes as many as there may be, by all clients in turn, in more and more epochs: each follows the one ahead of it, and no other.
func TestManyInARow(t *testing.T) {
	row := []api.Vers{{}}
	for i := range 150 {
		v := vers.Next(row[i], i*i%7%4+1)
		v.Root, v.Tag = counted(byte(i)), counted(byte(3*i))
		if i%5 == 0 {
			v.Epoch++
		}
		row = append(row, v)
		checkMay(t, "in a row", v, true)
		if v.Count != int64(i+1) || v.Vec[0]+v.Vec[1]+v.Vec[2]+v.Vec[3] != v.Count || v.N != v.Vec[v.Client-1] {
			t.Errorf("P14.2: %d in a row: %v", i, v)
		}
	}
	checkMay(t, "one more in the row", vers.Next(row[150], 1), false)
	for i, last := range row {
		for k, v := range row {
			checkFollows(t, "in a row", last, v, k == i+1)
		}
	}
}
