package disk

import (
	"math/rand"
	"testing"
)

// TestShortSequences has all sequences of five of a few calls on a small disk.
func TestShortSequences(t *testing.T) {
	steps := []func(p *pair) *pair{
		func(p *pair) *pair { p.write(0, "a"); return p },
		func(p *pair) *pair { p.write(0, "b"); return p },
		func(p *pair) *pair { p.write(1, "a"); return p },
		func(p *pair) *pair { p.write(1, ""); return p },
		func(p *pair) *pair { p.write(2, "c"); return p },
		func(p *pair) *pair { p.write(1, tooLong); return p },
		func(p *pair) *pair { p.sync(); return p },
		func(p *pair) *pair { p.setFuse(-1); return p },
		func(p *pair) *pair { p.setFuse(0); return p },
		func(p *pair) *pair { p.setFuse(2); return p },
		func(p *pair) *pair { return p.crash() },
		func(p *pair) *pair { return p.crash(false, true) },
	}
	const length = 5
	count := 1
	for range length {
		count *= len(steps)
	}
	for number := range count {
		p := newPair(t, 2)
		for range length {
			p = steps[number%len(steps)](p)
			number /= len(steps)
		}
		p.checkCrashes()
	}
}

// TestLongSequences has random calls on disks of several sizes.
func TestLongSequences(t *testing.T) {
	r := rand.New(rand.NewSource(3))
	for range 400 {
		p := newPair(t, 1+r.Intn(12))
		for range 100 {
			p = p.random(r)
			p.check()
			if len(p.m.dirty()) <= 4 {
				p.checkCrashes()
			}
		}
	}
}

// random makes a random call, of which most write.
func (p *pair) random(r *rand.Rand) *pair {
	switch r.Intn(12) {
	case 0, 1:
		p.sync()
	case 2:
		p.setFuse(r.Intn(30) - 1)
	case 3:
		p.write(r.Intn(20)-3, noise(r, r.Intn(70)))
	case 4:
		keep := make([]bool, r.Intn(p.m.sectors+2))
		for k := range keep {
			keep[k] = r.Intn(2) == 1
		}
		return p.crash(keep...)
	default:
		p.write(r.Intn(p.m.sectors), noise(r, r.Intn(65)))
	}
	return p
}
