package impl

const (
	maxFactor  = 1000000000
	minDivisor = 1
	maxDivisor = 1000000000
	maxUtil    = 1024
	maxFadings = 1000
	fadeKept   = 31
	fadeParts  = 32
	outOfRange = -1
)

// number carries the checks and steps of this chapter as methods, so that they can be handed on: a check to whoever
// asks it of several arguments, a step to whoever takes it again and again.
type number int64

func (n number) isFactor() bool { return 0 <= n && n <= maxFactor }

func (n number) isDivisor() bool { return minDivisor <= n && n <= maxDivisor }

func (n number) isUtil() bool { return 0 <= n && n <= maxUtil }

func (n number) isFadings() bool { return 0 <= n && n <= maxFadings }

// clamped takes high last: where low is above high, high is asked for.
func (n number) clamped(low number, high number) number { return min(max(n, low), high) }

// pulls tells what becomes of u when it is faded with n. The one that stays is the receiver, for n.pulls is the step
// that FadedMany repeats.
func (n number) pulls(u number) number { return (fadeKept*u + n) / fadeParts }

func allAre(check func(number) bool, list ...int64) bool {
	for _, n := range list {
		if !check(number(n)) {
			return false
		}
	}
	return true
}

func repeated(step func(number) number, start number, times int64) number {
	for range times {
		start = step(start)
	}
	return start
}

func MulDiv(a int64, b int64, c int64) int64 {
	if !allAre(number.isFactor, a, b) || !allAre(number.isDivisor, c) {
		return outOfRange
	}
	return a * b / c
}

func Clamped(x int64, low int64, high int64) int64 {
	return int64(number(x).clamped(number(low), number(high)))
}

func Faded(u int64, x int64) int64 {
	return FadedMany(u, x, 1)
}

func FadedMany(u int64, x int64, n int64) int64 {
	if !allAre(number.isUtil, u, x) || !allAre(number.isFadings, n) {
		return outOfRange
	}
	return int64(repeated(number(x).pulls, number(u), n))
}
