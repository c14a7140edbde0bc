package gen_test

import (
	"errors"
	"math"
	"math/rand"
	"testing"

	"drowse/api"
	"drowse/parse"
)

// settingBy is limits, lots and pieces by chance: some of them tight, some not.
func settingBy(r *rand.Rand) setting {
	s := setting{limits: roomy()}
	if r.Intn(2) == 0 {
		s.limits = api.Limits{Gos: 1 + r.Intn(6), Objects: 1 + r.Intn(12), Depth: 1 + r.Intn(8), Out: r.Intn(200)}
	}
	for range r.Intn(30) {
		lot := api.Lot{Pick: r.Intn(20) - 10}
		if r.Intn(3) == 0 {
			for range 1 + r.Intn(4) {
				lot.Weights = append(lot.Weights, []float64{0, 1, -1, math.Inf(1), math.NaN(), math.Copysign(0, -1), r.Float64()}[r.Intn(7)])
			}
		}
		s.lots = append(s.lots, lot)
	}
	for left := 20 + r.Intn(100); left > 0; {
		beats := r.Intn(40)
		s.pieces = append(s.pieces, beats)
		left -= beats + 1
	}
	return s
}

// grown is a checked file by chance, each node of which has a line of its own; one that is nested too deep is grown again.
func grown(t *testing.T, r *rand.Rand, risk int) api.Node {
	t.Helper()
	for {
		g := grower{r: r, risk: risk}
		n, err := parse.Parse(g.file())
		if errors.Is(err, api.ErrParseNest) {
			continue
		}
		if err != nil {
			t.Fatalf("a source that is grown: %v", err)
		}
		return lined(told(t, n))
	}
}

// Whatever file, limits, lots and beats: the program does what the file means.
func TestByChance(t *testing.T) {
	r := source(9)
	ends, fates, waits, kinds := map[api.End]int{}, map[api.Fate]int{}, map[api.Wait]int{}, map[api.NodeKind]int{}
	var beats, parks, choices, gos int
	for i := range 3000 {
		file := grown(t, r, []int{1, 5, 30}[i%3])
		changed(file, func(n *api.Node) { kinds[n.Kind]++ })
		p := made(t, file)
		for range 4 {
			o := played(t, file, p, settingBy(r))
			ends[o.End]++
			fates[o.Fate]++
			for _, b := range o.Blocked {
				waits[b.On]++
			}
			for _, s := range o.Stats {
				parks += s.Parks
			}
			beats += o.Beats
			choices += len(o.Choices)
			gos += len(o.Stats)
		}
	}
	for what, found := range map[string]int{
		"pauses": ends[api.EndBeats], "ends": ends[api.EndMain],
		"asleep": fates[api.FatalAsleep], "divide": fates[api.FatalDivide], "memory": fates[api.FatalMemory], "gos": fates[api.FatalGos], "depth": fates[api.FatalDepth], "output": fates[api.FatalOutput],
		"send": waits[api.OnSend], "recv": waits[api.OnRecv], "nil recv": waits[api.OnNilRecv], "select": waits[api.OnSelect], "no cases": waits[api.OnNoCases], "lock": waits[api.OnLock], "group": waits[api.OnGroup],
		"beats": beats / 100, "parks": parks / 10, "choices": choices / 10, "goroutines": gos / 10,
	} {
		if found < 30 {
			t.Errorf("the files that are grown are of no use: %s: %d", what, found)
		}
	}
	for k := api.NodeFile; k <= api.NodeMethod; k++ {
		if kinds[k] < 500 {
			t.Errorf("too few nodes of the kind %d: %d", k, kinds[k])
		}
	}
}
