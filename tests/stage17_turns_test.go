package tests

import (
	"math/rand"
	"runtime"
	"slices"
	"strconv"
	"testing"
	"time"

	"loop.example/g00393/impl"
)

// drawnWorld is a new world behind many drawn deeds, with messages on their way,
// lost and doubled, nodes that fall, and logs that are cut.
func drawnWorld(draw *rand.Rand, first, deeds int) (impl.World, []impl.Cmd) {
	p := impl.Setup{Rows: 1 + first%4, Window: 1 + first%5, Length: 1 + first%8, Keep: first % 10}
	w, _ := impl.WorldNew(p, 1+first%impl.MaxNodes)
	cmds := manyCmds(uint(first+17), p.Rows, 60)
	for range deeds {
		if got, code := impl.Do(w, rougher(draw, w, cmds, 2*(first%8))); code == impl.CdDone {
			w = got
		}
	}
	return w, slices.DeleteFunc(cmds, func(c impl.Cmd) bool { return c.Who < 0 })
}

// waits tells whether that client said something of which it was not told yet.
func waits(w impl.World, who int) bool {
	c := w.Said[who]
	return (c != impl.Cmd{}) && !impl.Told(w, who, c.Seq)
}

// askedOnce has a client ask one that leads (again, where it waits), and all be
// fed that, or be calm: where another one comes to lead by that, what was asked
// may be lost.
func askedOnce(t *testing.T, what string, w impl.World, who int, c impl.Cmd, fed bool) impl.World {
	t.Helper()
	leads, kind := impl.Leader(w), impl.DdSay
	if waits(w, who) {
		kind = impl.DdAgain
	}
	w, code := impl.Do(w, impl.Deed{Kind: kind, A: leads, B: who, C: c})
	if code != impl.CdDone || impl.Even(w, leads) {
		t.Fatalf("%s: client %d asks nothing: %d", what, who, code)
	}
	if !fed {
		return impl.Calm(w)
	}
	for range 2 {
		for to := range w.Size {
			w = next(w, impl.DdFeed, leads, to)
		}
		w = impl.Deliver(next(w, impl.DdSure, leads, 0))
	}
	return w
}

func wantAskedAndTold(t *testing.T, what string, w impl.World, cmds []impl.Cmd) impl.World {
	t.Helper()
	for who := range impl.Clients {
		fed, told := who%2 == 0, len(w.Heard)
		for range 2 {
			w = askedOnce(t, what, w, who, cmds[(told+who)%len(cmds)], fed)
			if wantAllDone(t, what+", asked", w); t.Failed() {
				t.FailNow()
			}
			w = next(w, impl.DdTell, (told+who)%w.Size, who)
			if !waits(w, who) || fed {
				break
			}
		}
		if len(w.Heard) != told+1 || waits(w, who) {
			t.Fatalf("%s: client %d is not told", what, who)
		}
	}
	return w
}

// Promise 17: behind Calm one leads, and all have done all; what was done stays
// done; what is asked then is done, and told.
func TestCalmWhateverIsDone(t *testing.T) {
	draw := rand.New(rand.NewSource(17))
	asked, led, fedMore, doneMore := [16]int{}, 0, 0, 0
	for first := range 120 {
		w, cmds := drawnWorld(draw, first, 30+draw.Intn(500))
		what := strconv.Itoa(first)
		wantLeaderAndEven(t, what, w)
		wantLeaderAndEven(t, what+", delivered", wantDelivered(t, what, w))
		got, how := wantCalm(t, what, w)
		wantAllDone(t, what, got)
		if asked[len(how.asked)]++; leaderByHand(w) >= 0 {
			led++
		}
		if doneMore += len(got.Done) - len(w.Done); slices.Max(how.fed) > 2 {
			fedMore++
		}
		got = wantAskedAndTold(t, what, got, cmds)
		for range 40 {
			if next, code := impl.Do(got, rougher(draw, got, cmds, 30)); code == impl.CdDone {
				got = next
			}
		}
		got, _ = wantCalm(t, what+", once more", got)
		if wantAllDone(t, what+", once more", got); t.Failed() {
			t.FailNow()
		}
	}
	if asked[1] < 50 || asked[2] < 15 || asked[3] < 1 || led < 30 || led > 100 || fedMore < 20 || doneMore < 150 {
		t.Errorf("asked %v, %d led, %d fed more, %d more done", asked, led, fedMore, doneMore)
	}
}

// calmWorlds are right or not, calm or not, and full or empty.
func calmWorlds() []impl.World {
	drawn, _ := drawnWorld(rand.New(rand.NewSource(172)), 7, 300)
	return []impl.World{
		newWorld(keepSetup(), 5),
		newWorld(keepSetup(), 1),
		evenWorld(),
		someWorld(),
		heavy(),
		drawn,
		changedEven(func(w *impl.World) { w.Nodes[0] = newPeer(keepSetup(), 0, 3) }),
		holds(onItsWay(evenWorld(), slices.Repeat([]impl.Rpc{asking(0, 2, 5)}, 40)...), asking(1, 2, 5)),
		wrongBehindAPut(3),
		wrongWorlds()["one told more"],
		{},
	}
}

func answersOfCalm(w impl.World) []any {
	return []any{
		impl.Deliver(w), impl.Calm(w), impl.Leader(w), impl.Even(w, 0), impl.Even(w, 1), impl.Calm(w), impl.Deliver(w),
	}
}

func TestCalmWritesNowhere(t *testing.T) {
	for i, w := range calmWorlds() {
		wantOwnMemory(t, strconv.Itoa(i), w, answersOfCalm)
	}
}

func TestCalmKeepsNothing(t *testing.T) {
	wantNothingKept(t, calmWorlds(), answersOfCalm)
}

// What was answered stays as it was when what it was made of turns.
func TestCalmThatWasAnsweredStays(t *testing.T) {
	for i, w := range calmWorlds() {
		w = deepCopy(w)
		calm, delivered := impl.Calm(w), impl.Deliver(w)
		wantCalm, wantDelivered := deepCopy(calm), deepCopy(delivered)
		for _, n := range w.Nodes {
			clear(n.Hard.Log.List)
			clear(n.Now.Done)
			clear(n.Disk.Bytes)
			clear(n.Next)
			clear(n.Match)
			clear(n.Votes)
		}
		clear(w.Nodes)
		clear(w.Net)
		clear(w.Said)
		clear(w.From)
		clear(w.Heard)
		clear(w.Done)
		wantWorld(t, strconv.Itoa(i)+", calm", calm, wantCalm)
		wantWorld(t, strconv.Itoa(i)+", delivered", delivered, wantDelivered)
	}
}

// However the goroutines run, the same is told, and none of them is left.
func TestCalmHoweverTheyRun(t *testing.T) {
	defer runtime.GOMAXPROCS(runtime.GOMAXPROCS(0))
	worlds, before := calmWorlds(), runtime.NumGoroutine()
	for i, w := range worlds {
		calm, delivered := impl.Calm(w), impl.Deliver(w)
		for _, procs := range []int{1, 2, 3, 16, 1} {
			runtime.GOMAXPROCS(procs)
			what := strconv.Itoa(i) + ", " + strconv.Itoa(procs) + " at once"
			wantWorld(t, what, impl.Calm(w), calm)
			wantWorld(t, what, impl.Deliver(w), delivered)
		}
	}
	for range 100 {
		if runtime.NumGoroutine() <= before {
			return
		}
		time.Sleep(10 * time.Millisecond)
	}
	t.Errorf("%d goroutines, %d before", runtime.NumGoroutine(), before)
}
