package side

import (
	"errors"
	"sync"

	"nightwatch/api"
)

// made of a number, which it has with it: what is made comes in any order.
type made[T any] struct {
	number int
	answer T
	err    error
}

// each makes an answer of each number below count. All workers have ended when
// it answers.
func each[T any](count, workers int, answer func(int) (T, error)) ([]T, error) {
	numbers, done := make(chan int), make(chan made[T])
	var wait sync.WaitGroup
	for range min(workers, count) {
		wait.Add(1)
		go func() {
			defer wait.Done()
			work(numbers, done, answer)
		}()
	}
	l := collect(count, numbers, done)
	close(numbers)
	wait.Wait()
	return inOrder(l)
}

func work[T any](numbers <-chan int, done chan<- made[T], answer func(int) (T, error)) {
	for n := range numbers {
		x, err := answer(n)
		done <- made[T]{n, x, err}
	}
}

// collect gives the numbers out and takes in what is made of them, in one
// select: a worker that has something to send takes no number until it is rid of
// it. Which of the two comes first is not to be seen: each has its own place.
func collect[T any](count int, numbers chan<- int, done <-chan made[T]) []made[T] {
	l := make([]made[T], count)
	next := 0
	for left := count; left > 0; {
		if next == count {
			numbers = nil // none is left to give: a nil channel is never ready
		}
		select {
		case numbers <- next:
			next++
		case m := <-done:
			l[m.number] = m
			left--
		}
	}
	return l
}

// inOrder tells the first error by its number, not by when it came.
func inOrder[T any](l []made[T]) ([]T, error) {
	answers := make([]T, 0, len(l))
	for _, m := range l {
		if m.err != nil {
			return nil, &api.Fault{At: m.number, Err: bare(m.err)}
		}
		answers = append(answers, m.answer)
	}
	return answers, nil
}

// bare error: a place inside of a text is none in the list of texts.
func bare(err error) error {
	var f *api.Fault
	if errors.As(err, &f) {
		return f.Err
	}
	return err
}
