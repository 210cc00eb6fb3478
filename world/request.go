package world

import "tidewheel/api"

// handOn stands behind all that may let a request run.
func (w *World) handOn() {
	for {
		// It is asked ahead of Give, which loads the pod that it tells.
		id, there := w.buffer.Next()
		if !there {
			return
		}
		pod, e := w.fleet.Give()
		if e != api.OK {
			return
		}
		// It can tell no error: the request is next.
		w.buffer.Run(id, pod)
	}
}

func (w *World) ready(pod int) api.Errno {
	if e := w.fleet.Ready(pod); e != api.OK {
		return e
	}
	w.handOn()
	return api.OK
}

func (w *World) crash(pod int) api.Errno {
	if _, e := w.fleet.Crash(pod); e != api.OK {
		return e
	}
	w.buffer.Lost(pod)
	w.handOn()
	return api.OK
}

func (w *World) ask(source, ticks int) api.Errno {
	if _, e := w.buffer.Ask(w.now, source, ticks); e != api.OK {
		return e
	}
	w.handOn()
	return api.OK
}

func (w *World) done(request int) api.Errno {
	pod, e := w.buffer.Done(request)
	if e != api.OK {
		return e
	}
	// It can tell no error: a pod stays as long as a request runs there,
	// and what is lost with one that crashes does not run any more.
	w.fleet.Done(pod)
	w.handOn()
	return api.OK
}
