package height_test

import (
	"math/big"
	"math/rand/v2"
	"testing"

	"barrage/api"
	"barrage/height"
)

// someRows returns random rows that ascend.
func someRows(r *rand.Rand, n, level, volume int) (l []api.BsRow) {
	at := api.BsRow{Level: r.IntN(2*level) - level, Volume: r.IntN(volume)}
	for range n {
		l = append(l, at)
		at.Level += 1 + r.IntN(level)
		at.Volume += 1 + r.IntN(volume)
	}
	return l
}

// exact returns the level of a volume by the definition.
func exact(rows []api.BsRow, volume int) *big.Rat {
	a, b := rows[len(rows)-2], rows[len(rows)-1]
	for i := len(rows) - 2; i >= 0; i-- {
		if rows[i+1].Volume > volume {
			a, b = rows[i], rows[i+1]
		}
	}
	return rat(a.Level).Add(rat(a.Level), rat((volume-a.Volume)*(b.Level-a.Level), b.Volume-a.Volume))
}

func rat(n int, by ...int) *big.Rat {
	x := big.NewRat(int64(n), 1)
	for _, d := range by {
		x.Quo(x, big.NewRat(int64(d), 1))
	}
	return x
}

func down(x *big.Rat) int {
	// Euclidean division rounds down, as the denominator is above 0.
	return int(new(big.Int).Div(x.Num(), x.Denom()).Int64())
}

func neg(x *big.Rat) *big.Rat { return new(big.Rat).Neg(x) }

// Levels, and what flows by them, in exact fractions: in small basins, and in the largest ones.
func TestLevels(t *testing.T) {
	r := rand.New(rand.NewPCG(4, 7))
	for i := range 20000 {
		rows, most, rate := someRows(r, 2+r.IntN(4), 10, 40), 300, r.IntN(20)
		if i%2 == 1 {
			rows, most, rate = someRows(r, 2+r.IntN(4), 8000, 200000000), api.MaxVolume, r.IntN(api.MaxBsRate+1)
		}
		volume := rows[0].Volume + r.IntN(most-rows[0].Volume+1)
		l, x := height.Of(rows, volume), exact(rows, volume)
		mark := down(x) + r.IntN(5) - 2
		if s := l.Span(); s.Lo != down(x) || s.Hi != -down(neg(x)) {
			t.Fatalf("%v: the level of %d is in %v, and is %v", rows, volume, s, x)
		}
		if mark < api.MinLevel || mark > api.MaxLevel {
			continue
		}
		way := x.Cmp(rat(mark))
		if l.Above(height.Mark(mark)) != (way > 0) || l.Below(height.Mark(mark)) != (way < 0) {
			t.Fatalf("%v: the level of %d is %v, is it above %d: %v, below: %v", rows, volume, x, mark, l.Above(height.Mark(mark)), l.Below(height.Mark(mark)))
		}
		head := new(big.Rat).Sub(x, rat(mark))
		head.Mul(head, rat(rate))
		if n := height.Flow(rate, l, height.Mark(mark)); n != down(head) {
			t.Fatalf("%v: from %v to %d there flow %d, want %v", rows, x, mark, n, head)
		}
		if n := height.Flow(rate, height.Mark(mark), l); n != down(neg(head)) {
			t.Fatalf("%v: from %d to %v there flow %d, want %v", rows, mark, x, n, neg(head))
		}
	}
}

// Volume is the greatest one whose level is at most a whole one.
func TestVolume(t *testing.T) {
	r := rand.New(rand.NewPCG(4, 8))
	for range 3000 {
		rows := someRows(r, 2+r.IntN(4), 10, 40)
		level := rows[0].Level + r.IntN(60)
		n := height.Volume(rows, level)
		if exact(rows, n).Cmp(rat(level)) > 0 || exact(rows, n+1).Cmp(rat(level)) <= 0 {
			t.Fatalf("%v: the volume at %d is %d, at %v", rows, level, n, exact(rows, n))
		}
	}
	rows := []api.BsRow{{}, {Level: 1, Volume: api.MaxVolume - 1}}
	for level, want := range map[int]int{0: 0, 1: api.MaxVolume - 1, 2: api.MaxVolume, api.MaxLevel: api.MaxVolume} {
		if n := height.Volume(rows, level); n != want {
			t.Errorf("the volume at %d is %d, want %d", level, n, want)
		}
	}
}

// The greatest products that there are.
func TestEnds(t *testing.T) {
	steep := []api.BsRow{{Level: api.MinLevel}, {Level: api.MaxLevel, Volume: 1}}
	flat := []api.BsRow{{Level: api.MinLevel}, {Level: api.MaxLevel, Volume: api.MaxVolume}}
	bottom, top, high := height.Of(flat, 0), height.Of(flat, api.MaxVolume), height.Of(steep, api.MaxVolume)
	for i, c := range []struct{ got, want int }{
		{height.Flow(api.MaxRnEnergy, bottom, height.Mark(api.MaxLevel)), -4000000000},
		{height.Flow(api.MaxRnEnergy, height.Mark(api.MaxLevel), bottom), 4000000000},
		{height.Flow(api.MaxBsRate, top, height.Mark(api.MinLevel)), 400000000},
		{height.Flow(api.MaxBsRate, high, height.Mark(api.MinLevel)), 400000000000000000},
	} {
		if c.got != c.want {
			t.Errorf("%d: %d, want %d", i, c.got, c.want)
		}
	}
}
