package meter

import "crossway/api"

// Tokens are what may be taken yet.
type Tokens struct{ rate, burst, level int }

// Bucket is full of tokens.
func Bucket(rate, burst int) (*Tokens, api.Errno) {
	if !isRate(rate) || !isRate(burst) {
		return nil, api.ErrArg
	}
	return &Tokens{rate: rate, burst: burst, level: burst}, api.OK
}

func isRate(n int) bool { return n >= 0 && n <= api.MaxRate }

// Take takes some; false: there are not so many.
func (t *Tokens) Take(n int) bool {
	if n < 0 || n > t.level {
		return false
	}
	t.level -= n
	return true
}

// Tick lets new ones come.
func (t *Tokens) Tick() { t.level = min(t.level+t.rate, t.burst) }

// Level is how many there are.
func (t *Tokens) Level() int { return t.level }
